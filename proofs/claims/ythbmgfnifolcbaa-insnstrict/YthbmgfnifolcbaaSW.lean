/- Towards the statement InsnStrict: its walk, kind by kind. -/
import Derived.Test.YthbmgfnifolcbaaSV
namespace Go.Proofs.Ythbmgfnifolcbaa
open Go.ChangeShapes Go.WideShapes Go.ChangeAt Go.RowKit
set_option linter.unusedVariables false
set_option linter.unusedSimpArgs false
set_option maxRecDepth 100000
set_option maxHeartbeats 16000000 in
theorem strict_1x (o d s f i off imm src : Int) (h0 : 0 ≤ o) (h1 : o ≤ 255) (d0 : 0 ≤ d) (d1 : d ≤ 255) (s0 : 0 ≤ s) (s1 : s ≤ 255) (r0 : 0 ≤ src) (r1 : src ≤ 255) (hk : kV o d s f i = 1) (hx : xB o = true) (w : World) : Calls Try.prog 7 #[ins o d s f i, .int .i16 off, .int .i32 imm, .int .u8 src] w fun e w' => e = .returned (.bool true) ∧ Below w.heap.size w w' := by
  obtain ⟨ha, hb', hc'⟩ := st_1x o d s f i off imm src s0 r0 hk hx
  have e8 : bits .and .u8 o 8 = o / 8 % 2 * 8 := and8 o h0 h1
  have ex : (o / 8 % 2 * 8 != 0) = xB o := x_ne o
  go_enter Try.func7, Try.ntmps7
  go_upto_region 1 with fail
  have HG : Below w.heap.size w (w.alloc (Obj.cells #[.int .u8 o, .int .u8 d, .int .u8 s, .int .i16 f, .int .i32 i] 24)) := (Below.refl _ w).alloc (Nat.le_refl _) _
  have HB := At5.new w o d s f i
  generalize (w.alloc (Obj.cells #[.int .u8 o, .int .u8 d, .int .u8 s, .int .i16 f, .int .i32 i] 24)) = W at HG HB ⊢
  generalize hBs : w.heap.size = B at HB ⊢
  obtain ⟨c0, c1, c2, c3, c4⟩ := HB.cells
  go_upto_region 5 with (first | (go_at_call 13; refine (gr_below (kind_any _ _ _ _ _ h0 h1 d0 d1 s0 s1 _)).mono ?_; rw [hk]; rintro r w1 ⟨rfl, hb⟩; replace HG := HG.trans (hb.mono HG.size); replace HB := HB.below hb; clear hb; obtain ⟨c0, c1, c2, c3, c4⟩ := HB.cells))
  refine reg75 _ B o d s f i HB _ _ rfl rfl rfl ?_
  intro w5 b1 b2 b3 HX HY HZ n12 n13 n23 g1 g2 g3 hb
  replace HG := HG.trans (hb.mono HG.size)
  have nB1 : B ≠ b1 := by have := HB.lt; omega
  have nB2 : B ≠ b2 := by have := HB.lt; omega
  have nB3 : B ≠ b3 := by have := HB.lt; omega
  have gw1 : w.heap.size ≤ b1 := by have := HB.lt; omega
  have gw2 : w.heap.size ≤ b2 := by have := HB.lt; omega
  have gw3 : w.heap.size ≤ b3 := by have := HB.lt; omega
  replace HB := HB.below hb
  clear hb c0 c1 c2 c3 c4
  obtain ⟨x0, x1, x2, x3, x4⟩ := HX.cells
  have z3 := HX.fz 3
  go_upto_region 7 with fail
  have HX2 : At5 (w5.setCell ⟨b1, 3, none⟩ (.int .i16 off)) b1 o d s off i := set_at HX 3 _
  replace HX := HX2
  replace HY := HY.other (fun e => n12 e.symm) (c := b1) 3 (.int .i16 off)
  replace HZ := HZ.other (fun e => n13 e.symm) (c := b1) 3 (.int .i16 off)
  replace HB := HB.other nB1 3 (.int .i16 off)
  replace HG := HG.setCell (p := ⟨b1, 3, none⟩) gw1 (.int .i16 off)
  clear x0 x1 x2 x3 x4 z3 HX2
  generalize w5.setCell ⟨b1, 3, none⟩ (.int .i16 off) = w6 at HX HY HZ HB HG ⊢
  obtain ⟨x0, x1, x2, x3, x4⟩ := HY.cells
  have z3 := HY.fz 4
  go_upto_region 8 with fail
  have HY2 : At5 (w6.setCell ⟨b2, 4, none⟩ (.int .i32 imm)) b2 o d s f imm := set_at HY 4 _
  replace HY := HY2
  replace HX := HX.other n12 (c := b2) 4 (.int .i32 imm)
  replace HZ := HZ.other (fun e => n23 e.symm) (c := b2) 4 (.int .i32 imm)
  replace HB := HB.other nB2 4 (.int .i32 imm)
  replace HG := HG.setCell (p := ⟨b2, 4, none⟩) gw2 (.int .i32 imm)
  clear x0 x1 x2 x3 x4 z3 HY2
  generalize w6.setCell ⟨b2, 4, none⟩ (.int .i32 imm) = w7 at HX HY HZ HB HG ⊢
  obtain ⟨x0, x1, x2, x3, x4⟩ := HZ.cells
  have z3 := HZ.fz 2
  go_upto_region 9 with fail
  have HZ2 : At5 (w7.setCell ⟨b3, 2, none⟩ (.int .u8 src)) b3 o d src f i := set_at HZ 2 _
  replace HZ := HZ2
  replace HX := HX.other n13 (c := b3) 2 (.int .u8 src)
  replace HY := HY.other n23 (c := b3) 2 (.int .u8 src)
  replace HB := HB.other nB3 2 (.int .u8 src)
  replace HG := HG.setCell (p := ⟨b3, 2, none⟩) gw3 (.int .u8 src)
  clear x0 x1 x2 x3 x4 z3 HZ2
  generalize w7.setCell ⟨b3, 2, none⟩ (.int .u8 src) = w8 at HX HY HZ HB HG ⊢
  obtain ⟨c0, c1, c2, c3, c4⟩ := HB.cells
  obtain ⟨x0, x1, x2, x3, x4⟩ := HX.cells
  obtain ⟨y0, y1, y2, y3, y4⟩ := HY.cells
  obtain ⟨z0, z1, z2, z3, z4⟩ := HZ.cells
  go_wp2_with (first | (go_at_call_of 13 (Value.int IntKind.i16 off); refine (gr_below (kind_any _ _ _ _ _ h0 h1 d0 d1 s0 s1 _)).mono ?_; rintro r w9 ⟨rfl, hb⟩; replace HG := HG.trans (hb.mono HG.size); replace HB := HB.below hb; replace HX := HX.below hb; replace HY := HY.below hb; replace HZ := HZ.below hb; clear hb; obtain ⟨c0, c1, c2, c3, c4⟩ := HB.cells; obtain ⟨x0, x1, x2, x3, x4⟩ := HX.cells; obtain ⟨y0, y1, y2, y3, y4⟩ := HY.cells; obtain ⟨z0, z1, z2, z3, z4⟩ := HZ.cells) | (go_at_call_of 13 (Value.int IntKind.i32 imm); refine (gr_below (kind_any _ _ _ _ _ h0 h1 d0 d1 s0 s1 _)).mono ?_; rintro r w9 ⟨rfl, hb⟩; replace HG := HG.trans (hb.mono HG.size); replace HB := HB.below hb; replace HX := HX.below hb; replace HY := HY.below hb; replace HZ := HZ.below hb; clear hb; obtain ⟨c0, c1, c2, c3, c4⟩ := HB.cells; obtain ⟨x0, x1, x2, x3, x4⟩ := HX.cells; obtain ⟨y0, y1, y2, y3, y4⟩ := HY.cells; obtain ⟨z0, z1, z2, z3, z4⟩ := HZ.cells) | (go_at_call_of 13 (Value.int IntKind.u8 src); refine (gr_below (kind_any _ _ _ _ _ h0 h1 d0 d1 r0 r1 _)).mono ?_; rintro r w9 ⟨rfl, hb⟩; replace HG := HG.trans (hb.mono HG.size); replace HB := HB.below hb; replace HX := HX.below hb; replace HY := HY.below hb; replace HZ := HZ.below hb; clear hb; obtain ⟨c0, c1, c2, c3, c4⟩ := HB.cells; obtain ⟨x0, x1, x2, x3, x4⟩ := HX.cells; obtain ⟨y0, y1, y2, y3, y4⟩ := HY.cells; obtain ⟨z0, z1, z2, z3, z4⟩ := HZ.cells) | (go_at_call 15; refine (gr_below (ex_gr (code_any _ _ _ _ _ h0 h1 _))).mono ?_; rintro r w9 ⟨rfl, hb⟩; replace HG := HG.trans (hb.mono HG.size); replace HB := HB.below hb; replace HX := HX.below hb; replace HY := HY.below hb; replace HZ := HZ.below hb; clear hb; obtain ⟨c0, c1, c2, c3, c4⟩ := HB.cells; obtain ⟨x0, x1, x2, x3, x4⟩ := HX.cells; obtain ⟨y0, y1, y2, y3, y4⟩ := HY.cells; obtain ⟨z0, z1, z2, z3, z4⟩ := HZ.cells) | (go_at_call 8; refine (alive_any _).mono ?_; rintro r w9 ⟨rfl, hb⟩; replace HG := HG.trans (hb.mono HG.size); replace HB := HB.below hb; replace HX := HX.below hb; replace HY := HY.below hb; replace HZ := HZ.below hb; clear hb; obtain ⟨c0, c1, c2, c3, c4⟩ := HB.cells; obtain ⟨x0, x1, x2, x3, x4⟩ := HX.cells; obtain ⟨y0, y1, y2, y3, y4⟩ := HY.cells; obtain ⟨z0, z1, z2, z3, z4⟩ := HZ.cells))
  go_returns
  rw [← hBs]
  exact ⟨rfl, HG⟩
set_option maxHeartbeats 16000000 in
theorem strict_1g (o d s f i off imm src : Int) (h0 : 0 ≤ o) (h1 : o ≤ 255) (d0 : 0 ≤ d) (d1 : d ≤ 255) (s0 : 0 ≤ s) (s1 : s ≤ 255) (r0 : 0 ≤ src) (r1 : src ≤ 255) (hk : kV o d s f i = 1) (hx : xB o = false) (hc : o / 16 = 8) (w : World) : Calls Try.prog 7 #[ins o d s f i, .int .i16 off, .int .i32 imm, .int .u8 src] w fun e w' => e = .returned (.bool true) ∧ Below w.heap.size w w' := by
  obtain ⟨ha, hb', hc'⟩ := st_1g o d s f i off imm src s0 r0 hk hx hc
  have e8 : bits .and .u8 o 8 = o / 8 % 2 * 8 := and8 o h0 h1
  have ex : (o / 8 % 2 * 8 != 0) = xB o := x_ne o
  have hc2 : (o / 16 != 8) = false := by simp [hc]
  go_enter Try.func7, Try.ntmps7
  go_upto_region 1 with fail
  have HG : Below w.heap.size w (w.alloc (Obj.cells #[.int .u8 o, .int .u8 d, .int .u8 s, .int .i16 f, .int .i32 i] 24)) := (Below.refl _ w).alloc (Nat.le_refl _) _
  have HB := At5.new w o d s f i
  generalize (w.alloc (Obj.cells #[.int .u8 o, .int .u8 d, .int .u8 s, .int .i16 f, .int .i32 i] 24)) = W at HG HB ⊢
  generalize hBs : w.heap.size = B at HB ⊢
  obtain ⟨c0, c1, c2, c3, c4⟩ := HB.cells
  go_upto_region 5 with (first | (go_at_call 13; refine (gr_below (kind_any _ _ _ _ _ h0 h1 d0 d1 s0 s1 _)).mono ?_; rw [hk]; rintro r w1 ⟨rfl, hb⟩; replace HG := HG.trans (hb.mono HG.size); replace HB := HB.below hb; clear hb; obtain ⟨c0, c1, c2, c3, c4⟩ := HB.cells))
  refine reg75 _ B o d s f i HB _ _ rfl rfl rfl ?_
  intro w5 b1 b2 b3 HX HY HZ n12 n13 n23 g1 g2 g3 hb
  replace HG := HG.trans (hb.mono HG.size)
  have nB1 : B ≠ b1 := by have := HB.lt; omega
  have nB2 : B ≠ b2 := by have := HB.lt; omega
  have nB3 : B ≠ b3 := by have := HB.lt; omega
  have gw1 : w.heap.size ≤ b1 := by have := HB.lt; omega
  have gw2 : w.heap.size ≤ b2 := by have := HB.lt; omega
  have gw3 : w.heap.size ≤ b3 := by have := HB.lt; omega
  replace HB := HB.below hb
  clear hb c0 c1 c2 c3 c4
  obtain ⟨x0, x1, x2, x3, x4⟩ := HX.cells
  have z3 := HX.fz 3
  go_upto_region 7 with fail
  have HX2 : At5 (w5.setCell ⟨b1, 3, none⟩ (.int .i16 off)) b1 o d s off i := set_at HX 3 _
  replace HX := HX2
  replace HY := HY.other (fun e => n12 e.symm) (c := b1) 3 (.int .i16 off)
  replace HZ := HZ.other (fun e => n13 e.symm) (c := b1) 3 (.int .i16 off)
  replace HB := HB.other nB1 3 (.int .i16 off)
  replace HG := HG.setCell (p := ⟨b1, 3, none⟩) gw1 (.int .i16 off)
  clear x0 x1 x2 x3 x4 z3 HX2
  generalize w5.setCell ⟨b1, 3, none⟩ (.int .i16 off) = w6 at HX HY HZ HB HG ⊢
  obtain ⟨x0, x1, x2, x3, x4⟩ := HY.cells
  have z3 := HY.fz 4
  go_upto_region 8 with fail
  have HY2 : At5 (w6.setCell ⟨b2, 4, none⟩ (.int .i32 imm)) b2 o d s f imm := set_at HY 4 _
  replace HY := HY2
  replace HX := HX.other n12 (c := b2) 4 (.int .i32 imm)
  replace HZ := HZ.other (fun e => n23 e.symm) (c := b2) 4 (.int .i32 imm)
  replace HB := HB.other nB2 4 (.int .i32 imm)
  replace HG := HG.setCell (p := ⟨b2, 4, none⟩) gw2 (.int .i32 imm)
  clear x0 x1 x2 x3 x4 z3 HY2
  generalize w6.setCell ⟨b2, 4, none⟩ (.int .i32 imm) = w7 at HX HY HZ HB HG ⊢
  obtain ⟨x0, x1, x2, x3, x4⟩ := HZ.cells
  have z3 := HZ.fz 2
  go_upto_region 9 with fail
  have HZ2 : At5 (w7.setCell ⟨b3, 2, none⟩ (.int .u8 src)) b3 o d src f i := set_at HZ 2 _
  replace HZ := HZ2
  replace HX := HX.other n13 (c := b3) 2 (.int .u8 src)
  replace HY := HY.other n23 (c := b3) 2 (.int .u8 src)
  replace HB := HB.other nB3 2 (.int .u8 src)
  replace HG := HG.setCell (p := ⟨b3, 2, none⟩) gw3 (.int .u8 src)
  clear x0 x1 x2 x3 x4 z3 HZ2
  generalize w7.setCell ⟨b3, 2, none⟩ (.int .u8 src) = w8 at HX HY HZ HB HG ⊢
  obtain ⟨c0, c1, c2, c3, c4⟩ := HB.cells
  obtain ⟨x0, x1, x2, x3, x4⟩ := HX.cells
  obtain ⟨y0, y1, y2, y3, y4⟩ := HY.cells
  obtain ⟨z0, z1, z2, z3, z4⟩ := HZ.cells
  go_upto_region 18 with (first | (go_at_call_of 13 (Value.int IntKind.i16 off); refine (gr_below (kind_any _ _ _ _ _ h0 h1 d0 d1 s0 s1 _)).mono ?_; rintro r w9 ⟨rfl, hb⟩; replace HG := HG.trans (hb.mono HG.size); replace HB := HB.below hb; replace HX := HX.below hb; replace HY := HY.below hb; replace HZ := HZ.below hb; clear hb; obtain ⟨c0, c1, c2, c3, c4⟩ := HB.cells; obtain ⟨x0, x1, x2, x3, x4⟩ := HX.cells; obtain ⟨y0, y1, y2, y3, y4⟩ := HY.cells; obtain ⟨z0, z1, z2, z3, z4⟩ := HZ.cells) | (go_at_call_of 13 (Value.int IntKind.i32 imm); refine (gr_below (kind_any _ _ _ _ _ h0 h1 d0 d1 s0 s1 _)).mono ?_; rintro r w9 ⟨rfl, hb⟩; replace HG := HG.trans (hb.mono HG.size); replace HB := HB.below hb; replace HX := HX.below hb; replace HY := HY.below hb; replace HZ := HZ.below hb; clear hb; obtain ⟨c0, c1, c2, c3, c4⟩ := HB.cells; obtain ⟨x0, x1, x2, x3, x4⟩ := HX.cells; obtain ⟨y0, y1, y2, y3, y4⟩ := HY.cells; obtain ⟨z0, z1, z2, z3, z4⟩ := HZ.cells) | (go_at_call_of 13 (Value.int IntKind.u8 src); refine (gr_below (kind_any _ _ _ _ _ h0 h1 d0 d1 r0 r1 _)).mono ?_; rintro r w9 ⟨rfl, hb⟩; replace HG := HG.trans (hb.mono HG.size); replace HB := HB.below hb; replace HX := HX.below hb; replace HY := HY.below hb; replace HZ := HZ.below hb; clear hb; obtain ⟨c0, c1, c2, c3, c4⟩ := HB.cells; obtain ⟨x0, x1, x2, x3, x4⟩ := HX.cells; obtain ⟨y0, y1, y2, y3, y4⟩ := HY.cells; obtain ⟨z0, z1, z2, z3, z4⟩ := HZ.cells) | (go_at_call 15; refine (gr_below (ex_gr (code_any _ _ _ _ _ h0 h1 _))).mono ?_; rintro r w9 ⟨rfl, hb⟩; replace HG := HG.trans (hb.mono HG.size); replace HB := HB.below hb; replace HX := HX.below hb; replace HY := HY.below hb; replace HZ := HZ.below hb; clear hb; obtain ⟨c0, c1, c2, c3, c4⟩ := HB.cells; obtain ⟨x0, x1, x2, x3, x4⟩ := HX.cells; obtain ⟨y0, y1, y2, y3, y4⟩ := HY.cells; obtain ⟨z0, z1, z2, z3, z4⟩ := HZ.cells) | (go_at_call 8; refine (alive_any _).mono ?_; rintro r w9 ⟨rfl, hb⟩; replace HG := HG.trans (hb.mono HG.size); replace HB := HB.below hb; replace HX := HX.below hb; replace HY := HY.below hb; replace HZ := HZ.below hb; clear hb; obtain ⟨c0, c1, c2, c3, c4⟩ := HB.cells; obtain ⟨x0, x1, x2, x3, x4⟩ := HX.cells; obtain ⟨y0, y1, y2, y3, y4⟩ := HY.cells; obtain ⟨z0, z1, z2, z3, z4⟩ := HZ.cells))
  have hne : Nonempty (GbBy w9) := ⟨⟨w9, Below.refl _ _⟩⟩
  have pb0 := fun p => (HB.allb p).1
  have pb1 := fun p => (HB.allb p).2.1
  have pb2 := fun p => (HB.allb p).2.2.1
  have pb3 := fun p => (HB.allb p).2.2.2.1
  have pb4 := fun p => (HB.allb p).2.2.2.2
  have pz0 := fun p => (HZ.allb p).1
  have pz1 := fun p => (HZ.allb p).2.1
  have pz2 := fun p => (HZ.allb p).2.2.1
  have pz3 := fun p => (HZ.allb p).2.2.2.1
  have pz4 := fun p => (HZ.allb p).2.2.2.2
  refine wp_region_gb (by kernel_rfl) (by kernel_rfl) ?_
  repeat (first
    | go_big_quiet_skip
    | (go_big_quiet_want; go_big_quiet_op; first
      | go_big_quiet_on
      | (apply Exists.intro
         refine ⟨fun p => ?_, ?_⟩
         · first
           | (go_at_call 13; exact calls_gb (gr_below (kind_any _ _ _ _ _ h0 h1 d0 d1 r0 r1 _)))
           | (go_at_call 8; exact calls_gb (alive_any _))
         go_big_quiet_on)))
  refine wpQuiet_nil ?_
  intro _ hw'
  obtain ⟨⟨wq, hq⟩, rfl⟩ := hw'
  go_wp2
  go_returns
  rw [← hBs]
  exact ⟨rfl, HG.trans (hq.mono HG.size)⟩
set_option maxHeartbeats 16000000 in
theorem strict_1n (o d s f i off imm src : Int) (h0 : 0 ≤ o) (h1 : o ≤ 255) (d0 : 0 ≤ d) (d1 : d ≤ 255) (s0 : 0 ≤ s) (s1 : s ≤ 255) (r0 : 0 ≤ src) (r1 : src ≤ 255) (hk : kV o d s f i = 1) (hx : xB o = false) (hc : ¬ o / 16 = 8) (w : World) : Calls Try.prog 7 #[ins o d s f i, .int .i16 off, .int .i32 imm, .int .u8 src] w fun e w' => e = .returned (.bool true) ∧ Below w.heap.size w w' := by
  obtain ⟨ha, hb', hc'⟩ := st_1n o d s f i off imm src s0 r0 hk hx hc
  have e8 : bits .and .u8 o 8 = o / 8 % 2 * 8 := and8 o h0 h1
  have ex : (o / 8 % 2 * 8 != 0) = xB o := x_ne o
  have hc2 : (o / 16 != 8) = true := by simp [hc]
  go_enter Try.func7, Try.ntmps7
  go_upto_region 1 with fail
  have HG : Below w.heap.size w (w.alloc (Obj.cells #[.int .u8 o, .int .u8 d, .int .u8 s, .int .i16 f, .int .i32 i] 24)) := (Below.refl _ w).alloc (Nat.le_refl _) _
  have HB := At5.new w o d s f i
  generalize (w.alloc (Obj.cells #[.int .u8 o, .int .u8 d, .int .u8 s, .int .i16 f, .int .i32 i] 24)) = W at HG HB ⊢
  generalize hBs : w.heap.size = B at HB ⊢
  obtain ⟨c0, c1, c2, c3, c4⟩ := HB.cells
  go_upto_region 5 with (first | (go_at_call 13; refine (gr_below (kind_any _ _ _ _ _ h0 h1 d0 d1 s0 s1 _)).mono ?_; rw [hk]; rintro r w1 ⟨rfl, hb⟩; replace HG := HG.trans (hb.mono HG.size); replace HB := HB.below hb; clear hb; obtain ⟨c0, c1, c2, c3, c4⟩ := HB.cells))
  refine reg75 _ B o d s f i HB _ _ rfl rfl rfl ?_
  intro w5 b1 b2 b3 HX HY HZ n12 n13 n23 g1 g2 g3 hb
  replace HG := HG.trans (hb.mono HG.size)
  have nB1 : B ≠ b1 := by have := HB.lt; omega
  have nB2 : B ≠ b2 := by have := HB.lt; omega
  have nB3 : B ≠ b3 := by have := HB.lt; omega
  have gw1 : w.heap.size ≤ b1 := by have := HB.lt; omega
  have gw2 : w.heap.size ≤ b2 := by have := HB.lt; omega
  have gw3 : w.heap.size ≤ b3 := by have := HB.lt; omega
  replace HB := HB.below hb
  clear hb c0 c1 c2 c3 c4
  obtain ⟨x0, x1, x2, x3, x4⟩ := HX.cells
  have z3 := HX.fz 3
  go_upto_region 7 with fail
  have HX2 : At5 (w5.setCell ⟨b1, 3, none⟩ (.int .i16 off)) b1 o d s off i := set_at HX 3 _
  replace HX := HX2
  replace HY := HY.other (fun e => n12 e.symm) (c := b1) 3 (.int .i16 off)
  replace HZ := HZ.other (fun e => n13 e.symm) (c := b1) 3 (.int .i16 off)
  replace HB := HB.other nB1 3 (.int .i16 off)
  replace HG := HG.setCell (p := ⟨b1, 3, none⟩) gw1 (.int .i16 off)
  clear x0 x1 x2 x3 x4 z3 HX2
  generalize w5.setCell ⟨b1, 3, none⟩ (.int .i16 off) = w6 at HX HY HZ HB HG ⊢
  obtain ⟨x0, x1, x2, x3, x4⟩ := HY.cells
  have z3 := HY.fz 4
  go_upto_region 8 with fail
  have HY2 : At5 (w6.setCell ⟨b2, 4, none⟩ (.int .i32 imm)) b2 o d s f imm := set_at HY 4 _
  replace HY := HY2
  replace HX := HX.other n12 (c := b2) 4 (.int .i32 imm)
  replace HZ := HZ.other (fun e => n23 e.symm) (c := b2) 4 (.int .i32 imm)
  replace HB := HB.other nB2 4 (.int .i32 imm)
  replace HG := HG.setCell (p := ⟨b2, 4, none⟩) gw2 (.int .i32 imm)
  clear x0 x1 x2 x3 x4 z3 HY2
  generalize w6.setCell ⟨b2, 4, none⟩ (.int .i32 imm) = w7 at HX HY HZ HB HG ⊢
  obtain ⟨x0, x1, x2, x3, x4⟩ := HZ.cells
  have z3 := HZ.fz 2
  go_upto_region 9 with fail
  have HZ2 : At5 (w7.setCell ⟨b3, 2, none⟩ (.int .u8 src)) b3 o d src f i := set_at HZ 2 _
  replace HZ := HZ2
  replace HX := HX.other n13 (c := b3) 2 (.int .u8 src)
  replace HY := HY.other n23 (c := b3) 2 (.int .u8 src)
  replace HB := HB.other nB3 2 (.int .u8 src)
  replace HG := HG.setCell (p := ⟨b3, 2, none⟩) gw3 (.int .u8 src)
  clear x0 x1 x2 x3 x4 z3 HZ2
  generalize w7.setCell ⟨b3, 2, none⟩ (.int .u8 src) = w8 at HX HY HZ HB HG ⊢
  obtain ⟨c0, c1, c2, c3, c4⟩ := HB.cells
  obtain ⟨x0, x1, x2, x3, x4⟩ := HX.cells
  obtain ⟨y0, y1, y2, y3, y4⟩ := HY.cells
  obtain ⟨z0, z1, z2, z3, z4⟩ := HZ.cells
  go_upto_region 18 with (first | (go_at_call_of 13 (Value.int IntKind.i16 off); refine (gr_below (kind_any _ _ _ _ _ h0 h1 d0 d1 s0 s1 _)).mono ?_; rintro r w9 ⟨rfl, hb⟩; replace HG := HG.trans (hb.mono HG.size); replace HB := HB.below hb; replace HX := HX.below hb; replace HY := HY.below hb; replace HZ := HZ.below hb; clear hb; obtain ⟨c0, c1, c2, c3, c4⟩ := HB.cells; obtain ⟨x0, x1, x2, x3, x4⟩ := HX.cells; obtain ⟨y0, y1, y2, y3, y4⟩ := HY.cells; obtain ⟨z0, z1, z2, z3, z4⟩ := HZ.cells) | (go_at_call_of 13 (Value.int IntKind.i32 imm); refine (gr_below (kind_any _ _ _ _ _ h0 h1 d0 d1 s0 s1 _)).mono ?_; rintro r w9 ⟨rfl, hb⟩; replace HG := HG.trans (hb.mono HG.size); replace HB := HB.below hb; replace HX := HX.below hb; replace HY := HY.below hb; replace HZ := HZ.below hb; clear hb; obtain ⟨c0, c1, c2, c3, c4⟩ := HB.cells; obtain ⟨x0, x1, x2, x3, x4⟩ := HX.cells; obtain ⟨y0, y1, y2, y3, y4⟩ := HY.cells; obtain ⟨z0, z1, z2, z3, z4⟩ := HZ.cells) | (go_at_call_of 13 (Value.int IntKind.u8 src); refine (gr_below (kind_any _ _ _ _ _ h0 h1 d0 d1 r0 r1 _)).mono ?_; rintro r w9 ⟨rfl, hb⟩; replace HG := HG.trans (hb.mono HG.size); replace HB := HB.below hb; replace HX := HX.below hb; replace HY := HY.below hb; replace HZ := HZ.below hb; clear hb; obtain ⟨c0, c1, c2, c3, c4⟩ := HB.cells; obtain ⟨x0, x1, x2, x3, x4⟩ := HX.cells; obtain ⟨y0, y1, y2, y3, y4⟩ := HY.cells; obtain ⟨z0, z1, z2, z3, z4⟩ := HZ.cells) | (go_at_call 15; refine (gr_below (ex_gr (code_any _ _ _ _ _ h0 h1 _))).mono ?_; rintro r w9 ⟨rfl, hb⟩; replace HG := HG.trans (hb.mono HG.size); replace HB := HB.below hb; replace HX := HX.below hb; replace HY := HY.below hb; replace HZ := HZ.below hb; clear hb; obtain ⟨c0, c1, c2, c3, c4⟩ := HB.cells; obtain ⟨x0, x1, x2, x3, x4⟩ := HX.cells; obtain ⟨y0, y1, y2, y3, y4⟩ := HY.cells; obtain ⟨z0, z1, z2, z3, z4⟩ := HZ.cells) | (go_at_call 8; refine (alive_any _).mono ?_; rintro r w9 ⟨rfl, hb⟩; replace HG := HG.trans (hb.mono HG.size); replace HB := HB.below hb; replace HX := HX.below hb; replace HY := HY.below hb; replace HZ := HZ.below hb; clear hb; obtain ⟨c0, c1, c2, c3, c4⟩ := HB.cells; obtain ⟨x0, x1, x2, x3, x4⟩ := HX.cells; obtain ⟨y0, y1, y2, y3, y4⟩ := HY.cells; obtain ⟨z0, z1, z2, z3, z4⟩ := HZ.cells))
  have hne : Nonempty (GbBy w9) := ⟨⟨w9, Below.refl _ _⟩⟩
  have pb0 := fun p => (HB.allb p).1
  have pb1 := fun p => (HB.allb p).2.1
  have pb2 := fun p => (HB.allb p).2.2.1
  have pb3 := fun p => (HB.allb p).2.2.2.1
  have pb4 := fun p => (HB.allb p).2.2.2.2
  have pz0 := fun p => (HZ.allb p).1
  have pz1 := fun p => (HZ.allb p).2.1
  have pz2 := fun p => (HZ.allb p).2.2.1
  have pz3 := fun p => (HZ.allb p).2.2.2.1
  have pz4 := fun p => (HZ.allb p).2.2.2.2
  refine wp_region_gb (by kernel_rfl) (by kernel_rfl) ?_
  repeat (first
    | go_big_quiet_skip
    | (go_big_quiet_want; go_big_quiet_op; first
      | go_big_quiet_on
      | (apply Exists.intro
         refine ⟨fun p => ?_, ?_⟩
         · first
           | (go_at_call 13; exact calls_gb (gr_below (kind_any _ _ _ _ _ h0 h1 d0 d1 r0 r1 _)))
           | (go_at_call 8; exact calls_gb (alive_any _))
         go_big_quiet_on)))
  refine wpQuiet_nil ?_
  intro _ hw'
  obtain ⟨⟨wq, hq⟩, rfl⟩ := hw'
  go_wp2
  go_returns
  rw [← hBs]
  exact ⟨rfl, HG.trans (hq.mono HG.size)⟩
set_option maxHeartbeats 16000000 in
theorem strict_5x (o d s f i off imm src : Int) (h0 : 0 ≤ o) (h1 : o ≤ 255) (d0 : 0 ≤ d) (d1 : d ≤ 255) (s0 : 0 ≤ s) (s1 : s ≤ 255) (r0 : 0 ≤ src) (r1 : src ≤ 255) (hk : kV o d s f i = 5) (hx : xB o = true) (w : World) : Calls Try.prog 7 #[ins o d s f i, .int .i16 off, .int .i32 imm, .int .u8 src] w fun e w' => e = .returned (.bool true) ∧ Below w.heap.size w w' := by
  obtain ⟨ha, hb', hc'⟩ := st_5x o d s f i off imm src s0 r0 hk hx
  have e8 : bits .and .u8 o 8 = o / 8 % 2 * 8 := and8 o h0 h1
  have ex : (o / 8 % 2 * 8 != 0) = xB o := x_ne o
  go_enter Try.func7, Try.ntmps7
  go_upto_region 1 with fail
  have HG : Below w.heap.size w (w.alloc (Obj.cells #[.int .u8 o, .int .u8 d, .int .u8 s, .int .i16 f, .int .i32 i] 24)) := (Below.refl _ w).alloc (Nat.le_refl _) _
  have HB := At5.new w o d s f i
  generalize (w.alloc (Obj.cells #[.int .u8 o, .int .u8 d, .int .u8 s, .int .i16 f, .int .i32 i] 24)) = W at HG HB ⊢
  generalize hBs : w.heap.size = B at HB ⊢
  obtain ⟨c0, c1, c2, c3, c4⟩ := HB.cells
  go_upto_region 5 with (first | (go_at_call 13; refine (gr_below (kind_any _ _ _ _ _ h0 h1 d0 d1 s0 s1 _)).mono ?_; rw [hk]; rintro r w1 ⟨rfl, hb⟩; replace HG := HG.trans (hb.mono HG.size); replace HB := HB.below hb; clear hb; obtain ⟨c0, c1, c2, c3, c4⟩ := HB.cells))
  refine reg75 _ B o d s f i HB _ _ rfl rfl rfl ?_
  intro w5 b1 b2 b3 HX HY HZ n12 n13 n23 g1 g2 g3 hb
  replace HG := HG.trans (hb.mono HG.size)
  have nB1 : B ≠ b1 := by have := HB.lt; omega
  have nB2 : B ≠ b2 := by have := HB.lt; omega
  have nB3 : B ≠ b3 := by have := HB.lt; omega
  have gw1 : w.heap.size ≤ b1 := by have := HB.lt; omega
  have gw2 : w.heap.size ≤ b2 := by have := HB.lt; omega
  have gw3 : w.heap.size ≤ b3 := by have := HB.lt; omega
  replace HB := HB.below hb
  clear hb c0 c1 c2 c3 c4
  obtain ⟨x0, x1, x2, x3, x4⟩ := HX.cells
  have z3 := HX.fz 3
  go_upto_region 7 with fail
  have HX2 : At5 (w5.setCell ⟨b1, 3, none⟩ (.int .i16 off)) b1 o d s off i := set_at HX 3 _
  replace HX := HX2
  replace HY := HY.other (fun e => n12 e.symm) (c := b1) 3 (.int .i16 off)
  replace HZ := HZ.other (fun e => n13 e.symm) (c := b1) 3 (.int .i16 off)
  replace HB := HB.other nB1 3 (.int .i16 off)
  replace HG := HG.setCell (p := ⟨b1, 3, none⟩) gw1 (.int .i16 off)
  clear x0 x1 x2 x3 x4 z3 HX2
  generalize w5.setCell ⟨b1, 3, none⟩ (.int .i16 off) = w6 at HX HY HZ HB HG ⊢
  obtain ⟨x0, x1, x2, x3, x4⟩ := HY.cells
  have z3 := HY.fz 4
  go_upto_region 8 with fail
  have HY2 : At5 (w6.setCell ⟨b2, 4, none⟩ (.int .i32 imm)) b2 o d s f imm := set_at HY 4 _
  replace HY := HY2
  replace HX := HX.other n12 (c := b2) 4 (.int .i32 imm)
  replace HZ := HZ.other (fun e => n23 e.symm) (c := b2) 4 (.int .i32 imm)
  replace HB := HB.other nB2 4 (.int .i32 imm)
  replace HG := HG.setCell (p := ⟨b2, 4, none⟩) gw2 (.int .i32 imm)
  clear x0 x1 x2 x3 x4 z3 HY2
  generalize w6.setCell ⟨b2, 4, none⟩ (.int .i32 imm) = w7 at HX HY HZ HB HG ⊢
  obtain ⟨x0, x1, x2, x3, x4⟩ := HZ.cells
  have z3 := HZ.fz 2
  go_upto_region 9 with fail
  have HZ2 : At5 (w7.setCell ⟨b3, 2, none⟩ (.int .u8 src)) b3 o d src f i := set_at HZ 2 _
  replace HZ := HZ2
  replace HX := HX.other n13 (c := b3) 2 (.int .u8 src)
  replace HY := HY.other n23 (c := b3) 2 (.int .u8 src)
  replace HB := HB.other nB3 2 (.int .u8 src)
  replace HG := HG.setCell (p := ⟨b3, 2, none⟩) gw3 (.int .u8 src)
  clear x0 x1 x2 x3 x4 z3 HZ2
  generalize w7.setCell ⟨b3, 2, none⟩ (.int .u8 src) = w8 at HX HY HZ HB HG ⊢
  obtain ⟨c0, c1, c2, c3, c4⟩ := HB.cells
  obtain ⟨x0, x1, x2, x3, x4⟩ := HX.cells
  obtain ⟨y0, y1, y2, y3, y4⟩ := HY.cells
  obtain ⟨z0, z1, z2, z3, z4⟩ := HZ.cells
  go_wp2_with (first | (go_at_call_of 13 (Value.int IntKind.i16 off); refine (gr_below (kind_any _ _ _ _ _ h0 h1 d0 d1 s0 s1 _)).mono ?_; rintro r w9 ⟨rfl, hb⟩; replace HG := HG.trans (hb.mono HG.size); replace HB := HB.below hb; replace HX := HX.below hb; replace HY := HY.below hb; replace HZ := HZ.below hb; clear hb; obtain ⟨c0, c1, c2, c3, c4⟩ := HB.cells; obtain ⟨x0, x1, x2, x3, x4⟩ := HX.cells; obtain ⟨y0, y1, y2, y3, y4⟩ := HY.cells; obtain ⟨z0, z1, z2, z3, z4⟩ := HZ.cells) | (go_at_call_of 13 (Value.int IntKind.i32 imm); refine (gr_below (kind_any _ _ _ _ _ h0 h1 d0 d1 s0 s1 _)).mono ?_; rintro r w9 ⟨rfl, hb⟩; replace HG := HG.trans (hb.mono HG.size); replace HB := HB.below hb; replace HX := HX.below hb; replace HY := HY.below hb; replace HZ := HZ.below hb; clear hb; obtain ⟨c0, c1, c2, c3, c4⟩ := HB.cells; obtain ⟨x0, x1, x2, x3, x4⟩ := HX.cells; obtain ⟨y0, y1, y2, y3, y4⟩ := HY.cells; obtain ⟨z0, z1, z2, z3, z4⟩ := HZ.cells) | (go_at_call_of 13 (Value.int IntKind.u8 src); refine (gr_below (kind_any _ _ _ _ _ h0 h1 d0 d1 r0 r1 _)).mono ?_; rintro r w9 ⟨rfl, hb⟩; replace HG := HG.trans (hb.mono HG.size); replace HB := HB.below hb; replace HX := HX.below hb; replace HY := HY.below hb; replace HZ := HZ.below hb; clear hb; obtain ⟨c0, c1, c2, c3, c4⟩ := HB.cells; obtain ⟨x0, x1, x2, x3, x4⟩ := HX.cells; obtain ⟨y0, y1, y2, y3, y4⟩ := HY.cells; obtain ⟨z0, z1, z2, z3, z4⟩ := HZ.cells) | (go_at_call 15; refine (gr_below (ex_gr (code_any _ _ _ _ _ h0 h1 _))).mono ?_; rintro r w9 ⟨rfl, hb⟩; replace HG := HG.trans (hb.mono HG.size); replace HB := HB.below hb; replace HX := HX.below hb; replace HY := HY.below hb; replace HZ := HZ.below hb; clear hb; obtain ⟨c0, c1, c2, c3, c4⟩ := HB.cells; obtain ⟨x0, x1, x2, x3, x4⟩ := HX.cells; obtain ⟨y0, y1, y2, y3, y4⟩ := HY.cells; obtain ⟨z0, z1, z2, z3, z4⟩ := HZ.cells) | (go_at_call 8; refine (alive_any _).mono ?_; rintro r w9 ⟨rfl, hb⟩; replace HG := HG.trans (hb.mono HG.size); replace HB := HB.below hb; replace HX := HX.below hb; replace HY := HY.below hb; replace HZ := HZ.below hb; clear hb; obtain ⟨c0, c1, c2, c3, c4⟩ := HB.cells; obtain ⟨x0, x1, x2, x3, x4⟩ := HX.cells; obtain ⟨y0, y1, y2, y3, y4⟩ := HY.cells; obtain ⟨z0, z1, z2, z3, z4⟩ := HZ.cells))
  go_returns
  rw [← hBs]
  exact ⟨rfl, HG⟩
set_option maxHeartbeats 16000000 in
theorem strict_5n (o d s f i off imm src : Int) (h0 : 0 ≤ o) (h1 : o ≤ 255) (d0 : 0 ≤ d) (d1 : d ≤ 255) (s0 : 0 ≤ s) (s1 : s ≤ 255) (r0 : 0 ≤ src) (r1 : src ≤ 255) (hk : kV o d s f i = 5) (hx : xB o = false) (w : World) : Calls Try.prog 7 #[ins o d s f i, .int .i16 off, .int .i32 imm, .int .u8 src] w fun e w' => e = .returned (.bool true) ∧ Below w.heap.size w w' := by
  obtain ⟨ha, hb', hc'⟩ := st_5n o d s f i off imm src s0 r0 hk hx
  have e8 : bits .and .u8 o 8 = o / 8 % 2 * 8 := and8 o h0 h1
  have ex : (o / 8 % 2 * 8 != 0) = xB o := x_ne o
  go_enter Try.func7, Try.ntmps7
  go_upto_region 1 with fail
  have HG : Below w.heap.size w (w.alloc (Obj.cells #[.int .u8 o, .int .u8 d, .int .u8 s, .int .i16 f, .int .i32 i] 24)) := (Below.refl _ w).alloc (Nat.le_refl _) _
  have HB := At5.new w o d s f i
  generalize (w.alloc (Obj.cells #[.int .u8 o, .int .u8 d, .int .u8 s, .int .i16 f, .int .i32 i] 24)) = W at HG HB ⊢
  generalize hBs : w.heap.size = B at HB ⊢
  obtain ⟨c0, c1, c2, c3, c4⟩ := HB.cells
  go_upto_region 5 with (first | (go_at_call 13; refine (gr_below (kind_any _ _ _ _ _ h0 h1 d0 d1 s0 s1 _)).mono ?_; rw [hk]; rintro r w1 ⟨rfl, hb⟩; replace HG := HG.trans (hb.mono HG.size); replace HB := HB.below hb; clear hb; obtain ⟨c0, c1, c2, c3, c4⟩ := HB.cells))
  refine reg75 _ B o d s f i HB _ _ rfl rfl rfl ?_
  intro w5 b1 b2 b3 HX HY HZ n12 n13 n23 g1 g2 g3 hb
  replace HG := HG.trans (hb.mono HG.size)
  have nB1 : B ≠ b1 := by have := HB.lt; omega
  have nB2 : B ≠ b2 := by have := HB.lt; omega
  have nB3 : B ≠ b3 := by have := HB.lt; omega
  have gw1 : w.heap.size ≤ b1 := by have := HB.lt; omega
  have gw2 : w.heap.size ≤ b2 := by have := HB.lt; omega
  have gw3 : w.heap.size ≤ b3 := by have := HB.lt; omega
  replace HB := HB.below hb
  clear hb c0 c1 c2 c3 c4
  obtain ⟨x0, x1, x2, x3, x4⟩ := HX.cells
  have z3 := HX.fz 3
  go_upto_region 7 with fail
  have HX2 : At5 (w5.setCell ⟨b1, 3, none⟩ (.int .i16 off)) b1 o d s off i := set_at HX 3 _
  replace HX := HX2
  replace HY := HY.other (fun e => n12 e.symm) (c := b1) 3 (.int .i16 off)
  replace HZ := HZ.other (fun e => n13 e.symm) (c := b1) 3 (.int .i16 off)
  replace HB := HB.other nB1 3 (.int .i16 off)
  replace HG := HG.setCell (p := ⟨b1, 3, none⟩) gw1 (.int .i16 off)
  clear x0 x1 x2 x3 x4 z3 HX2
  generalize w5.setCell ⟨b1, 3, none⟩ (.int .i16 off) = w6 at HX HY HZ HB HG ⊢
  obtain ⟨x0, x1, x2, x3, x4⟩ := HY.cells
  have z3 := HY.fz 4
  go_upto_region 8 with fail
  have HY2 : At5 (w6.setCell ⟨b2, 4, none⟩ (.int .i32 imm)) b2 o d s f imm := set_at HY 4 _
  replace HY := HY2
  replace HX := HX.other n12 (c := b2) 4 (.int .i32 imm)
  replace HZ := HZ.other (fun e => n23 e.symm) (c := b2) 4 (.int .i32 imm)
  replace HB := HB.other nB2 4 (.int .i32 imm)
  replace HG := HG.setCell (p := ⟨b2, 4, none⟩) gw2 (.int .i32 imm)
  clear x0 x1 x2 x3 x4 z3 HY2
  generalize w6.setCell ⟨b2, 4, none⟩ (.int .i32 imm) = w7 at HX HY HZ HB HG ⊢
  obtain ⟨x0, x1, x2, x3, x4⟩ := HZ.cells
  have z3 := HZ.fz 2
  go_upto_region 9 with fail
  have HZ2 : At5 (w7.setCell ⟨b3, 2, none⟩ (.int .u8 src)) b3 o d src f i := set_at HZ 2 _
  replace HZ := HZ2
  replace HX := HX.other n13 (c := b3) 2 (.int .u8 src)
  replace HY := HY.other n23 (c := b3) 2 (.int .u8 src)
  replace HB := HB.other nB3 2 (.int .u8 src)
  replace HG := HG.setCell (p := ⟨b3, 2, none⟩) gw3 (.int .u8 src)
  clear x0 x1 x2 x3 x4 z3 HZ2
  generalize w7.setCell ⟨b3, 2, none⟩ (.int .u8 src) = w8 at HX HY HZ HB HG ⊢
  obtain ⟨c0, c1, c2, c3, c4⟩ := HB.cells
  obtain ⟨x0, x1, x2, x3, x4⟩ := HX.cells
  obtain ⟨y0, y1, y2, y3, y4⟩ := HY.cells
  obtain ⟨z0, z1, z2, z3, z4⟩ := HZ.cells
  go_upto_region 18 with (first | (go_at_call_of 13 (Value.int IntKind.i16 off); refine (gr_below (kind_any _ _ _ _ _ h0 h1 d0 d1 s0 s1 _)).mono ?_; rintro r w9 ⟨rfl, hb⟩; replace HG := HG.trans (hb.mono HG.size); replace HB := HB.below hb; replace HX := HX.below hb; replace HY := HY.below hb; replace HZ := HZ.below hb; clear hb; obtain ⟨c0, c1, c2, c3, c4⟩ := HB.cells; obtain ⟨x0, x1, x2, x3, x4⟩ := HX.cells; obtain ⟨y0, y1, y2, y3, y4⟩ := HY.cells; obtain ⟨z0, z1, z2, z3, z4⟩ := HZ.cells) | (go_at_call_of 13 (Value.int IntKind.i32 imm); refine (gr_below (kind_any _ _ _ _ _ h0 h1 d0 d1 s0 s1 _)).mono ?_; rintro r w9 ⟨rfl, hb⟩; replace HG := HG.trans (hb.mono HG.size); replace HB := HB.below hb; replace HX := HX.below hb; replace HY := HY.below hb; replace HZ := HZ.below hb; clear hb; obtain ⟨c0, c1, c2, c3, c4⟩ := HB.cells; obtain ⟨x0, x1, x2, x3, x4⟩ := HX.cells; obtain ⟨y0, y1, y2, y3, y4⟩ := HY.cells; obtain ⟨z0, z1, z2, z3, z4⟩ := HZ.cells) | (go_at_call_of 13 (Value.int IntKind.u8 src); refine (gr_below (kind_any _ _ _ _ _ h0 h1 d0 d1 r0 r1 _)).mono ?_; rintro r w9 ⟨rfl, hb⟩; replace HG := HG.trans (hb.mono HG.size); replace HB := HB.below hb; replace HX := HX.below hb; replace HY := HY.below hb; replace HZ := HZ.below hb; clear hb; obtain ⟨c0, c1, c2, c3, c4⟩ := HB.cells; obtain ⟨x0, x1, x2, x3, x4⟩ := HX.cells; obtain ⟨y0, y1, y2, y3, y4⟩ := HY.cells; obtain ⟨z0, z1, z2, z3, z4⟩ := HZ.cells) | (go_at_call 15; refine (gr_below (ex_gr (code_any _ _ _ _ _ h0 h1 _))).mono ?_; rintro r w9 ⟨rfl, hb⟩; replace HG := HG.trans (hb.mono HG.size); replace HB := HB.below hb; replace HX := HX.below hb; replace HY := HY.below hb; replace HZ := HZ.below hb; clear hb; obtain ⟨c0, c1, c2, c3, c4⟩ := HB.cells; obtain ⟨x0, x1, x2, x3, x4⟩ := HX.cells; obtain ⟨y0, y1, y2, y3, y4⟩ := HY.cells; obtain ⟨z0, z1, z2, z3, z4⟩ := HZ.cells) | (go_at_call 8; refine (alive_any _).mono ?_; rintro r w9 ⟨rfl, hb⟩; replace HG := HG.trans (hb.mono HG.size); replace HB := HB.below hb; replace HX := HX.below hb; replace HY := HY.below hb; replace HZ := HZ.below hb; clear hb; obtain ⟨c0, c1, c2, c3, c4⟩ := HB.cells; obtain ⟨x0, x1, x2, x3, x4⟩ := HX.cells; obtain ⟨y0, y1, y2, y3, y4⟩ := HY.cells; obtain ⟨z0, z1, z2, z3, z4⟩ := HZ.cells))
  have hne : Nonempty (GbBy w9) := ⟨⟨w9, Below.refl _ _⟩⟩
  have pb0 := fun p => (HB.allb p).1
  have pb1 := fun p => (HB.allb p).2.1
  have pb2 := fun p => (HB.allb p).2.2.1
  have pb3 := fun p => (HB.allb p).2.2.2.1
  have pb4 := fun p => (HB.allb p).2.2.2.2
  have pz0 := fun p => (HZ.allb p).1
  have pz1 := fun p => (HZ.allb p).2.1
  have pz2 := fun p => (HZ.allb p).2.2.1
  have pz3 := fun p => (HZ.allb p).2.2.2.1
  have pz4 := fun p => (HZ.allb p).2.2.2.2
  refine wp_region_gb (by kernel_rfl) (by kernel_rfl) ?_
  repeat (first
    | go_big_quiet_skip
    | (go_big_quiet_want; go_big_quiet_op; first
      | go_big_quiet_on
      | (apply Exists.intro
         refine ⟨fun p => ?_, ?_⟩
         · first
           | (go_at_call 13; exact calls_gb (gr_below (kind_any _ _ _ _ _ h0 h1 d0 d1 r0 r1 _)))
           | (go_at_call 8; exact calls_gb (alive_any _))
         go_big_quiet_on)))
  refine wpQuiet_nil ?_
  intro _ hw'
  obtain ⟨⟨wq, hq⟩, rfl⟩ := hw'
  go_wp2
  go_returns
  rw [← hBs]
  exact ⟨rfl, HG.trans (hq.mono HG.size)⟩
set_option maxHeartbeats 16000000 in
theorem strict_2 (o d s f i off imm src : Int) (h0 : 0 ≤ o) (h1 : o ≤ 255) (d0 : 0 ≤ d) (d1 : d ≤ 255) (s0 : 0 ≤ s) (s1 : s ≤ 255) (r0 : 0 ≤ src) (r1 : src ≤ 255) (hk : kV o d s f i = 2)  (w : World) : Calls Try.prog 7 #[ins o d s f i, .int .i16 off, .int .i32 imm, .int .u8 src] w fun e w' => e = .returned (.bool true) ∧ Below w.heap.size w w' := by
  obtain ⟨ha, hb', hc'⟩ := st_2 o d s f i off imm src s0 r0 hk
  have e8 : bits .and .u8 o 8 = o / 8 % 2 * 8 := and8 o h0 h1
  have ex : (o / 8 % 2 * 8 != 0) = xB o := x_ne o
  go_enter Try.func7, Try.ntmps7
  go_upto_region 1 with fail
  have HG : Below w.heap.size w (w.alloc (Obj.cells #[.int .u8 o, .int .u8 d, .int .u8 s, .int .i16 f, .int .i32 i] 24)) := (Below.refl _ w).alloc (Nat.le_refl _) _
  have HB := At5.new w o d s f i
  generalize (w.alloc (Obj.cells #[.int .u8 o, .int .u8 d, .int .u8 s, .int .i16 f, .int .i32 i] 24)) = W at HG HB ⊢
  generalize hBs : w.heap.size = B at HB ⊢
  obtain ⟨c0, c1, c2, c3, c4⟩ := HB.cells
  go_upto_region 5 with (first | (go_at_call 13; refine (gr_below (kind_any _ _ _ _ _ h0 h1 d0 d1 s0 s1 _)).mono ?_; rw [hk]; rintro r w1 ⟨rfl, hb⟩; replace HG := HG.trans (hb.mono HG.size); replace HB := HB.below hb; clear hb; obtain ⟨c0, c1, c2, c3, c4⟩ := HB.cells))
  refine reg75 _ B o d s f i HB _ _ rfl rfl rfl ?_
  intro w5 b1 b2 b3 HX HY HZ n12 n13 n23 g1 g2 g3 hb
  replace HG := HG.trans (hb.mono HG.size)
  have nB1 : B ≠ b1 := by have := HB.lt; omega
  have nB2 : B ≠ b2 := by have := HB.lt; omega
  have nB3 : B ≠ b3 := by have := HB.lt; omega
  have gw1 : w.heap.size ≤ b1 := by have := HB.lt; omega
  have gw2 : w.heap.size ≤ b2 := by have := HB.lt; omega
  have gw3 : w.heap.size ≤ b3 := by have := HB.lt; omega
  replace HB := HB.below hb
  clear hb c0 c1 c2 c3 c4
  obtain ⟨x0, x1, x2, x3, x4⟩ := HX.cells
  have z3 := HX.fz 3
  go_upto_region 7 with fail
  have HX2 : At5 (w5.setCell ⟨b1, 3, none⟩ (.int .i16 off)) b1 o d s off i := set_at HX 3 _
  replace HX := HX2
  replace HY := HY.other (fun e => n12 e.symm) (c := b1) 3 (.int .i16 off)
  replace HZ := HZ.other (fun e => n13 e.symm) (c := b1) 3 (.int .i16 off)
  replace HB := HB.other nB1 3 (.int .i16 off)
  replace HG := HG.setCell (p := ⟨b1, 3, none⟩) gw1 (.int .i16 off)
  clear x0 x1 x2 x3 x4 z3 HX2
  generalize w5.setCell ⟨b1, 3, none⟩ (.int .i16 off) = w6 at HX HY HZ HB HG ⊢
  obtain ⟨x0, x1, x2, x3, x4⟩ := HY.cells
  have z3 := HY.fz 4
  go_upto_region 8 with fail
  have HY2 : At5 (w6.setCell ⟨b2, 4, none⟩ (.int .i32 imm)) b2 o d s f imm := set_at HY 4 _
  replace HY := HY2
  replace HX := HX.other n12 (c := b2) 4 (.int .i32 imm)
  replace HZ := HZ.other (fun e => n23 e.symm) (c := b2) 4 (.int .i32 imm)
  replace HB := HB.other nB2 4 (.int .i32 imm)
  replace HG := HG.setCell (p := ⟨b2, 4, none⟩) gw2 (.int .i32 imm)
  clear x0 x1 x2 x3 x4 z3 HY2
  generalize w6.setCell ⟨b2, 4, none⟩ (.int .i32 imm) = w7 at HX HY HZ HB HG ⊢
  obtain ⟨x0, x1, x2, x3, x4⟩ := HZ.cells
  have z3 := HZ.fz 2
  go_upto_region 9 with fail
  have HZ2 : At5 (w7.setCell ⟨b3, 2, none⟩ (.int .u8 src)) b3 o d src f i := set_at HZ 2 _
  replace HZ := HZ2
  replace HX := HX.other n13 (c := b3) 2 (.int .u8 src)
  replace HY := HY.other n23 (c := b3) 2 (.int .u8 src)
  replace HB := HB.other nB3 2 (.int .u8 src)
  replace HG := HG.setCell (p := ⟨b3, 2, none⟩) gw3 (.int .u8 src)
  clear x0 x1 x2 x3 x4 z3 HZ2
  generalize w7.setCell ⟨b3, 2, none⟩ (.int .u8 src) = w8 at HX HY HZ HB HG ⊢
  obtain ⟨c0, c1, c2, c3, c4⟩ := HB.cells
  obtain ⟨x0, x1, x2, x3, x4⟩ := HX.cells
  obtain ⟨y0, y1, y2, y3, y4⟩ := HY.cells
  obtain ⟨z0, z1, z2, z3, z4⟩ := HZ.cells
  go_wp2_with (first | (go_at_call_of 13 (Value.int IntKind.i16 off); refine (gr_below (kind_any _ _ _ _ _ h0 h1 d0 d1 s0 s1 _)).mono ?_; rintro r w9 ⟨rfl, hb⟩; replace HG := HG.trans (hb.mono HG.size); replace HB := HB.below hb; replace HX := HX.below hb; replace HY := HY.below hb; replace HZ := HZ.below hb; clear hb; obtain ⟨c0, c1, c2, c3, c4⟩ := HB.cells; obtain ⟨x0, x1, x2, x3, x4⟩ := HX.cells; obtain ⟨y0, y1, y2, y3, y4⟩ := HY.cells; obtain ⟨z0, z1, z2, z3, z4⟩ := HZ.cells) | (go_at_call_of 13 (Value.int IntKind.i32 imm); refine (gr_below (kind_any _ _ _ _ _ h0 h1 d0 d1 s0 s1 _)).mono ?_; rintro r w9 ⟨rfl, hb⟩; replace HG := HG.trans (hb.mono HG.size); replace HB := HB.below hb; replace HX := HX.below hb; replace HY := HY.below hb; replace HZ := HZ.below hb; clear hb; obtain ⟨c0, c1, c2, c3, c4⟩ := HB.cells; obtain ⟨x0, x1, x2, x3, x4⟩ := HX.cells; obtain ⟨y0, y1, y2, y3, y4⟩ := HY.cells; obtain ⟨z0, z1, z2, z3, z4⟩ := HZ.cells) | (go_at_call_of 13 (Value.int IntKind.u8 src); refine (gr_below (kind_any _ _ _ _ _ h0 h1 d0 d1 r0 r1 _)).mono ?_; rintro r w9 ⟨rfl, hb⟩; replace HG := HG.trans (hb.mono HG.size); replace HB := HB.below hb; replace HX := HX.below hb; replace HY := HY.below hb; replace HZ := HZ.below hb; clear hb; obtain ⟨c0, c1, c2, c3, c4⟩ := HB.cells; obtain ⟨x0, x1, x2, x3, x4⟩ := HX.cells; obtain ⟨y0, y1, y2, y3, y4⟩ := HY.cells; obtain ⟨z0, z1, z2, z3, z4⟩ := HZ.cells) | (go_at_call 15; refine (gr_below (ex_gr (code_any _ _ _ _ _ h0 h1 _))).mono ?_; rintro r w9 ⟨rfl, hb⟩; replace HG := HG.trans (hb.mono HG.size); replace HB := HB.below hb; replace HX := HX.below hb; replace HY := HY.below hb; replace HZ := HZ.below hb; clear hb; obtain ⟨c0, c1, c2, c3, c4⟩ := HB.cells; obtain ⟨x0, x1, x2, x3, x4⟩ := HX.cells; obtain ⟨y0, y1, y2, y3, y4⟩ := HY.cells; obtain ⟨z0, z1, z2, z3, z4⟩ := HZ.cells) | (go_at_call 8; refine (alive_any _).mono ?_; rintro r w9 ⟨rfl, hb⟩; replace HG := HG.trans (hb.mono HG.size); replace HB := HB.below hb; replace HX := HX.below hb; replace HY := HY.below hb; replace HZ := HZ.below hb; clear hb; obtain ⟨c0, c1, c2, c3, c4⟩ := HB.cells; obtain ⟨x0, x1, x2, x3, x4⟩ := HX.cells; obtain ⟨y0, y1, y2, y3, y4⟩ := HY.cells; obtain ⟨z0, z1, z2, z3, z4⟩ := HZ.cells))
  go_returns
  rw [← hBs]
  exact ⟨rfl, HG⟩
set_option maxHeartbeats 16000000 in
theorem strict_4 (o d s f i off imm src : Int) (h0 : 0 ≤ o) (h1 : o ≤ 255) (d0 : 0 ≤ d) (d1 : d ≤ 255) (s0 : 0 ≤ s) (s1 : s ≤ 255) (r0 : 0 ≤ src) (r1 : src ≤ 255) (hk : kV o d s f i = 4)  (w : World) : Calls Try.prog 7 #[ins o d s f i, .int .i16 off, .int .i32 imm, .int .u8 src] w fun e w' => e = .returned (.bool true) ∧ Below w.heap.size w w' := by
  obtain ⟨ha, hb', hc'⟩ := st_4 o d s f i off imm src s0 r0 hk
  have e8 : bits .and .u8 o 8 = o / 8 % 2 * 8 := and8 o h0 h1
  have ex : (o / 8 % 2 * 8 != 0) = xB o := x_ne o
  go_enter Try.func7, Try.ntmps7
  go_upto_region 1 with fail
  have HG : Below w.heap.size w (w.alloc (Obj.cells #[.int .u8 o, .int .u8 d, .int .u8 s, .int .i16 f, .int .i32 i] 24)) := (Below.refl _ w).alloc (Nat.le_refl _) _
  have HB := At5.new w o d s f i
  generalize (w.alloc (Obj.cells #[.int .u8 o, .int .u8 d, .int .u8 s, .int .i16 f, .int .i32 i] 24)) = W at HG HB ⊢
  generalize hBs : w.heap.size = B at HB ⊢
  obtain ⟨c0, c1, c2, c3, c4⟩ := HB.cells
  go_upto_region 5 with (first | (go_at_call 13; refine (gr_below (kind_any _ _ _ _ _ h0 h1 d0 d1 s0 s1 _)).mono ?_; rw [hk]; rintro r w1 ⟨rfl, hb⟩; replace HG := HG.trans (hb.mono HG.size); replace HB := HB.below hb; clear hb; obtain ⟨c0, c1, c2, c3, c4⟩ := HB.cells))
  refine reg75 _ B o d s f i HB _ _ rfl rfl rfl ?_
  intro w5 b1 b2 b3 HX HY HZ n12 n13 n23 g1 g2 g3 hb
  replace HG := HG.trans (hb.mono HG.size)
  have nB1 : B ≠ b1 := by have := HB.lt; omega
  have nB2 : B ≠ b2 := by have := HB.lt; omega
  have nB3 : B ≠ b3 := by have := HB.lt; omega
  have gw1 : w.heap.size ≤ b1 := by have := HB.lt; omega
  have gw2 : w.heap.size ≤ b2 := by have := HB.lt; omega
  have gw3 : w.heap.size ≤ b3 := by have := HB.lt; omega
  replace HB := HB.below hb
  clear hb c0 c1 c2 c3 c4
  obtain ⟨x0, x1, x2, x3, x4⟩ := HX.cells
  have z3 := HX.fz 3
  go_upto_region 7 with fail
  have HX2 : At5 (w5.setCell ⟨b1, 3, none⟩ (.int .i16 off)) b1 o d s off i := set_at HX 3 _
  replace HX := HX2
  replace HY := HY.other (fun e => n12 e.symm) (c := b1) 3 (.int .i16 off)
  replace HZ := HZ.other (fun e => n13 e.symm) (c := b1) 3 (.int .i16 off)
  replace HB := HB.other nB1 3 (.int .i16 off)
  replace HG := HG.setCell (p := ⟨b1, 3, none⟩) gw1 (.int .i16 off)
  clear x0 x1 x2 x3 x4 z3 HX2
  generalize w5.setCell ⟨b1, 3, none⟩ (.int .i16 off) = w6 at HX HY HZ HB HG ⊢
  obtain ⟨x0, x1, x2, x3, x4⟩ := HY.cells
  have z3 := HY.fz 4
  go_upto_region 8 with fail
  have HY2 : At5 (w6.setCell ⟨b2, 4, none⟩ (.int .i32 imm)) b2 o d s f imm := set_at HY 4 _
  replace HY := HY2
  replace HX := HX.other n12 (c := b2) 4 (.int .i32 imm)
  replace HZ := HZ.other (fun e => n23 e.symm) (c := b2) 4 (.int .i32 imm)
  replace HB := HB.other nB2 4 (.int .i32 imm)
  replace HG := HG.setCell (p := ⟨b2, 4, none⟩) gw2 (.int .i32 imm)
  clear x0 x1 x2 x3 x4 z3 HY2
  generalize w6.setCell ⟨b2, 4, none⟩ (.int .i32 imm) = w7 at HX HY HZ HB HG ⊢
  obtain ⟨x0, x1, x2, x3, x4⟩ := HZ.cells
  have z3 := HZ.fz 2
  go_upto_region 9 with fail
  have HZ2 : At5 (w7.setCell ⟨b3, 2, none⟩ (.int .u8 src)) b3 o d src f i := set_at HZ 2 _
  replace HZ := HZ2
  replace HX := HX.other n13 (c := b3) 2 (.int .u8 src)
  replace HY := HY.other n23 (c := b3) 2 (.int .u8 src)
  replace HB := HB.other nB3 2 (.int .u8 src)
  replace HG := HG.setCell (p := ⟨b3, 2, none⟩) gw3 (.int .u8 src)
  clear x0 x1 x2 x3 x4 z3 HZ2
  generalize w7.setCell ⟨b3, 2, none⟩ (.int .u8 src) = w8 at HX HY HZ HB HG ⊢
  obtain ⟨c0, c1, c2, c3, c4⟩ := HB.cells
  obtain ⟨x0, x1, x2, x3, x4⟩ := HX.cells
  obtain ⟨y0, y1, y2, y3, y4⟩ := HY.cells
  obtain ⟨z0, z1, z2, z3, z4⟩ := HZ.cells
  go_wp2_with (first | (go_at_call_of 13 (Value.int IntKind.i16 off); refine (gr_below (kind_any _ _ _ _ _ h0 h1 d0 d1 s0 s1 _)).mono ?_; rintro r w9 ⟨rfl, hb⟩; replace HG := HG.trans (hb.mono HG.size); replace HB := HB.below hb; replace HX := HX.below hb; replace HY := HY.below hb; replace HZ := HZ.below hb; clear hb; obtain ⟨c0, c1, c2, c3, c4⟩ := HB.cells; obtain ⟨x0, x1, x2, x3, x4⟩ := HX.cells; obtain ⟨y0, y1, y2, y3, y4⟩ := HY.cells; obtain ⟨z0, z1, z2, z3, z4⟩ := HZ.cells) | (go_at_call_of 13 (Value.int IntKind.i32 imm); refine (gr_below (kind_any _ _ _ _ _ h0 h1 d0 d1 s0 s1 _)).mono ?_; rintro r w9 ⟨rfl, hb⟩; replace HG := HG.trans (hb.mono HG.size); replace HB := HB.below hb; replace HX := HX.below hb; replace HY := HY.below hb; replace HZ := HZ.below hb; clear hb; obtain ⟨c0, c1, c2, c3, c4⟩ := HB.cells; obtain ⟨x0, x1, x2, x3, x4⟩ := HX.cells; obtain ⟨y0, y1, y2, y3, y4⟩ := HY.cells; obtain ⟨z0, z1, z2, z3, z4⟩ := HZ.cells) | (go_at_call_of 13 (Value.int IntKind.u8 src); refine (gr_below (kind_any _ _ _ _ _ h0 h1 d0 d1 r0 r1 _)).mono ?_; rintro r w9 ⟨rfl, hb⟩; replace HG := HG.trans (hb.mono HG.size); replace HB := HB.below hb; replace HX := HX.below hb; replace HY := HY.below hb; replace HZ := HZ.below hb; clear hb; obtain ⟨c0, c1, c2, c3, c4⟩ := HB.cells; obtain ⟨x0, x1, x2, x3, x4⟩ := HX.cells; obtain ⟨y0, y1, y2, y3, y4⟩ := HY.cells; obtain ⟨z0, z1, z2, z3, z4⟩ := HZ.cells) | (go_at_call 15; refine (gr_below (ex_gr (code_any _ _ _ _ _ h0 h1 _))).mono ?_; rintro r w9 ⟨rfl, hb⟩; replace HG := HG.trans (hb.mono HG.size); replace HB := HB.below hb; replace HX := HX.below hb; replace HY := HY.below hb; replace HZ := HZ.below hb; clear hb; obtain ⟨c0, c1, c2, c3, c4⟩ := HB.cells; obtain ⟨x0, x1, x2, x3, x4⟩ := HX.cells; obtain ⟨y0, y1, y2, y3, y4⟩ := HY.cells; obtain ⟨z0, z1, z2, z3, z4⟩ := HZ.cells) | (go_at_call 8; refine (alive_any _).mono ?_; rintro r w9 ⟨rfl, hb⟩; replace HG := HG.trans (hb.mono HG.size); replace HB := HB.below hb; replace HX := HX.below hb; replace HY := HY.below hb; replace HZ := HZ.below hb; clear hb; obtain ⟨c0, c1, c2, c3, c4⟩ := HB.cells; obtain ⟨x0, x1, x2, x3, x4⟩ := HX.cells; obtain ⟨y0, y1, y2, y3, y4⟩ := HY.cells; obtain ⟨z0, z1, z2, z3, z4⟩ := HZ.cells))
  go_returns
  rw [← hBs]
  exact ⟨rfl, HG⟩
set_option maxHeartbeats 16000000 in
theorem strict_3 (o d s f i off imm src : Int) (h0 : 0 ≤ o) (h1 : o ≤ 255) (d0 : 0 ≤ d) (d1 : d ≤ 255) (s0 : 0 ≤ s) (s1 : s ≤ 255) (r0 : 0 ≤ src) (r1 : src ≤ 255) (hk : kV o d s f i = 3)  (w : World) : Calls Try.prog 7 #[ins o d s f i, .int .i16 off, .int .i32 imm, .int .u8 src] w fun e w' => e = .returned (.bool true) ∧ Below w.heap.size w w' := by
  obtain ⟨ha, hb', hc'⟩ := st_3 o d s f i off imm src s0 r0 hk
  have e8 : bits .and .u8 o 8 = o / 8 % 2 * 8 := and8 o h0 h1
  have ex : (o / 8 % 2 * 8 != 0) = xB o := x_ne o
  go_enter Try.func7, Try.ntmps7
  go_upto_region 1 with fail
  have HG : Below w.heap.size w (w.alloc (Obj.cells #[.int .u8 o, .int .u8 d, .int .u8 s, .int .i16 f, .int .i32 i] 24)) := (Below.refl _ w).alloc (Nat.le_refl _) _
  have HB := At5.new w o d s f i
  generalize (w.alloc (Obj.cells #[.int .u8 o, .int .u8 d, .int .u8 s, .int .i16 f, .int .i32 i] 24)) = W at HG HB ⊢
  generalize hBs : w.heap.size = B at HB ⊢
  obtain ⟨c0, c1, c2, c3, c4⟩ := HB.cells
  go_upto_region 5 with (first | (go_at_call 13; refine (gr_below (kind_any _ _ _ _ _ h0 h1 d0 d1 s0 s1 _)).mono ?_; rw [hk]; rintro r w1 ⟨rfl, hb⟩; replace HG := HG.trans (hb.mono HG.size); replace HB := HB.below hb; clear hb; obtain ⟨c0, c1, c2, c3, c4⟩ := HB.cells))
  refine reg75 _ B o d s f i HB _ _ rfl rfl rfl ?_
  intro w5 b1 b2 b3 HX HY HZ n12 n13 n23 g1 g2 g3 hb
  replace HG := HG.trans (hb.mono HG.size)
  have nB1 : B ≠ b1 := by have := HB.lt; omega
  have nB2 : B ≠ b2 := by have := HB.lt; omega
  have nB3 : B ≠ b3 := by have := HB.lt; omega
  have gw1 : w.heap.size ≤ b1 := by have := HB.lt; omega
  have gw2 : w.heap.size ≤ b2 := by have := HB.lt; omega
  have gw3 : w.heap.size ≤ b3 := by have := HB.lt; omega
  replace HB := HB.below hb
  clear hb c0 c1 c2 c3 c4
  obtain ⟨x0, x1, x2, x3, x4⟩ := HX.cells
  have z3 := HX.fz 3
  go_upto_region 7 with fail
  have HX2 : At5 (w5.setCell ⟨b1, 3, none⟩ (.int .i16 off)) b1 o d s off i := set_at HX 3 _
  replace HX := HX2
  replace HY := HY.other (fun e => n12 e.symm) (c := b1) 3 (.int .i16 off)
  replace HZ := HZ.other (fun e => n13 e.symm) (c := b1) 3 (.int .i16 off)
  replace HB := HB.other nB1 3 (.int .i16 off)
  replace HG := HG.setCell (p := ⟨b1, 3, none⟩) gw1 (.int .i16 off)
  clear x0 x1 x2 x3 x4 z3 HX2
  generalize w5.setCell ⟨b1, 3, none⟩ (.int .i16 off) = w6 at HX HY HZ HB HG ⊢
  obtain ⟨x0, x1, x2, x3, x4⟩ := HY.cells
  have z3 := HY.fz 4
  go_upto_region 8 with fail
  have HY2 : At5 (w6.setCell ⟨b2, 4, none⟩ (.int .i32 imm)) b2 o d s f imm := set_at HY 4 _
  replace HY := HY2
  replace HX := HX.other n12 (c := b2) 4 (.int .i32 imm)
  replace HZ := HZ.other (fun e => n23 e.symm) (c := b2) 4 (.int .i32 imm)
  replace HB := HB.other nB2 4 (.int .i32 imm)
  replace HG := HG.setCell (p := ⟨b2, 4, none⟩) gw2 (.int .i32 imm)
  clear x0 x1 x2 x3 x4 z3 HY2
  generalize w6.setCell ⟨b2, 4, none⟩ (.int .i32 imm) = w7 at HX HY HZ HB HG ⊢
  obtain ⟨x0, x1, x2, x3, x4⟩ := HZ.cells
  have z3 := HZ.fz 2
  go_upto_region 9 with fail
  have HZ2 : At5 (w7.setCell ⟨b3, 2, none⟩ (.int .u8 src)) b3 o d src f i := set_at HZ 2 _
  replace HZ := HZ2
  replace HX := HX.other n13 (c := b3) 2 (.int .u8 src)
  replace HY := HY.other n23 (c := b3) 2 (.int .u8 src)
  replace HB := HB.other nB3 2 (.int .u8 src)
  replace HG := HG.setCell (p := ⟨b3, 2, none⟩) gw3 (.int .u8 src)
  clear x0 x1 x2 x3 x4 z3 HZ2
  generalize w7.setCell ⟨b3, 2, none⟩ (.int .u8 src) = w8 at HX HY HZ HB HG ⊢
  obtain ⟨c0, c1, c2, c3, c4⟩ := HB.cells
  obtain ⟨x0, x1, x2, x3, x4⟩ := HX.cells
  obtain ⟨y0, y1, y2, y3, y4⟩ := HY.cells
  obtain ⟨z0, z1, z2, z3, z4⟩ := HZ.cells
  go_upto_region 18 with (first | (go_at_call_of 13 (Value.int IntKind.i16 off); refine (gr_below (kind_any _ _ _ _ _ h0 h1 d0 d1 s0 s1 _)).mono ?_; rintro r w9 ⟨rfl, hb⟩; replace HG := HG.trans (hb.mono HG.size); replace HB := HB.below hb; replace HX := HX.below hb; replace HY := HY.below hb; replace HZ := HZ.below hb; clear hb; obtain ⟨c0, c1, c2, c3, c4⟩ := HB.cells; obtain ⟨x0, x1, x2, x3, x4⟩ := HX.cells; obtain ⟨y0, y1, y2, y3, y4⟩ := HY.cells; obtain ⟨z0, z1, z2, z3, z4⟩ := HZ.cells) | (go_at_call_of 13 (Value.int IntKind.i32 imm); refine (gr_below (kind_any _ _ _ _ _ h0 h1 d0 d1 s0 s1 _)).mono ?_; rintro r w9 ⟨rfl, hb⟩; replace HG := HG.trans (hb.mono HG.size); replace HB := HB.below hb; replace HX := HX.below hb; replace HY := HY.below hb; replace HZ := HZ.below hb; clear hb; obtain ⟨c0, c1, c2, c3, c4⟩ := HB.cells; obtain ⟨x0, x1, x2, x3, x4⟩ := HX.cells; obtain ⟨y0, y1, y2, y3, y4⟩ := HY.cells; obtain ⟨z0, z1, z2, z3, z4⟩ := HZ.cells) | (go_at_call_of 13 (Value.int IntKind.u8 src); refine (gr_below (kind_any _ _ _ _ _ h0 h1 d0 d1 r0 r1 _)).mono ?_; rintro r w9 ⟨rfl, hb⟩; replace HG := HG.trans (hb.mono HG.size); replace HB := HB.below hb; replace HX := HX.below hb; replace HY := HY.below hb; replace HZ := HZ.below hb; clear hb; obtain ⟨c0, c1, c2, c3, c4⟩ := HB.cells; obtain ⟨x0, x1, x2, x3, x4⟩ := HX.cells; obtain ⟨y0, y1, y2, y3, y4⟩ := HY.cells; obtain ⟨z0, z1, z2, z3, z4⟩ := HZ.cells) | (go_at_call 15; refine (gr_below (ex_gr (code_any _ _ _ _ _ h0 h1 _))).mono ?_; rintro r w9 ⟨rfl, hb⟩; replace HG := HG.trans (hb.mono HG.size); replace HB := HB.below hb; replace HX := HX.below hb; replace HY := HY.below hb; replace HZ := HZ.below hb; clear hb; obtain ⟨c0, c1, c2, c3, c4⟩ := HB.cells; obtain ⟨x0, x1, x2, x3, x4⟩ := HX.cells; obtain ⟨y0, y1, y2, y3, y4⟩ := HY.cells; obtain ⟨z0, z1, z2, z3, z4⟩ := HZ.cells) | (go_at_call 8; refine (alive_any _).mono ?_; rintro r w9 ⟨rfl, hb⟩; replace HG := HG.trans (hb.mono HG.size); replace HB := HB.below hb; replace HX := HX.below hb; replace HY := HY.below hb; replace HZ := HZ.below hb; clear hb; obtain ⟨c0, c1, c2, c3, c4⟩ := HB.cells; obtain ⟨x0, x1, x2, x3, x4⟩ := HX.cells; obtain ⟨y0, y1, y2, y3, y4⟩ := HY.cells; obtain ⟨z0, z1, z2, z3, z4⟩ := HZ.cells))
  have hne : Nonempty (GbBy w9) := ⟨⟨w9, Below.refl _ _⟩⟩
  have pb0 := fun p => (HB.allb p).1
  have pb1 := fun p => (HB.allb p).2.1
  have pb2 := fun p => (HB.allb p).2.2.1
  have pb3 := fun p => (HB.allb p).2.2.2.1
  have pb4 := fun p => (HB.allb p).2.2.2.2
  have pz0 := fun p => (HZ.allb p).1
  have pz1 := fun p => (HZ.allb p).2.1
  have pz2 := fun p => (HZ.allb p).2.2.1
  have pz3 := fun p => (HZ.allb p).2.2.2.1
  have pz4 := fun p => (HZ.allb p).2.2.2.2
  refine wp_region_gb (by kernel_rfl) (by kernel_rfl) ?_
  repeat (first
    | go_big_quiet_skip
    | (go_big_quiet_want; go_big_quiet_op; first
      | go_big_quiet_on
      | (apply Exists.intro
         refine ⟨fun p => ?_, ?_⟩
         · first
           | (go_at_call 13; exact calls_gb (gr_below (kind_any _ _ _ _ _ h0 h1 d0 d1 r0 r1 _)))
           | (go_at_call 8; exact calls_gb (alive_any _))
         go_big_quiet_on)))
  refine wpQuiet_nil ?_
  intro _ hw'
  obtain ⟨⟨wq, hq⟩, rfl⟩ := hw'
  go_wp2
  go_returns
  rw [← hBs]
  exact ⟨rfl, HG.trans (hq.mono HG.size)⟩
set_option maxHeartbeats 16000000 in
theorem strict_6 (o d s f i off imm src : Int) (h0 : 0 ≤ o) (h1 : o ≤ 255) (d0 : 0 ≤ d) (d1 : d ≤ 255) (s0 : 0 ≤ s) (s1 : s ≤ 255) (r0 : 0 ≤ src) (r1 : src ≤ 255) (hk : kV o d s f i = 6)  (w : World) : Calls Try.prog 7 #[ins o d s f i, .int .i16 off, .int .i32 imm, .int .u8 src] w fun e w' => e = .returned (.bool true) ∧ Below w.heap.size w w' := by
  obtain ⟨ha, hb', hc'⟩ := st_6 o d s f i off imm src s0 r0 hk
  have e8 : bits .and .u8 o 8 = o / 8 % 2 * 8 := and8 o h0 h1
  have ex : (o / 8 % 2 * 8 != 0) = xB o := x_ne o
  go_enter Try.func7, Try.ntmps7
  go_upto_region 1 with fail
  have HG : Below w.heap.size w (w.alloc (Obj.cells #[.int .u8 o, .int .u8 d, .int .u8 s, .int .i16 f, .int .i32 i] 24)) := (Below.refl _ w).alloc (Nat.le_refl _) _
  have HB := At5.new w o d s f i
  generalize (w.alloc (Obj.cells #[.int .u8 o, .int .u8 d, .int .u8 s, .int .i16 f, .int .i32 i] 24)) = W at HG HB ⊢
  generalize hBs : w.heap.size = B at HB ⊢
  obtain ⟨c0, c1, c2, c3, c4⟩ := HB.cells
  go_upto_region 5 with (first | (go_at_call 13; refine (gr_below (kind_any _ _ _ _ _ h0 h1 d0 d1 s0 s1 _)).mono ?_; rw [hk]; rintro r w1 ⟨rfl, hb⟩; replace HG := HG.trans (hb.mono HG.size); replace HB := HB.below hb; clear hb; obtain ⟨c0, c1, c2, c3, c4⟩ := HB.cells))
  refine reg75 _ B o d s f i HB _ _ rfl rfl rfl ?_
  intro w5 b1 b2 b3 HX HY HZ n12 n13 n23 g1 g2 g3 hb
  replace HG := HG.trans (hb.mono HG.size)
  have nB1 : B ≠ b1 := by have := HB.lt; omega
  have nB2 : B ≠ b2 := by have := HB.lt; omega
  have nB3 : B ≠ b3 := by have := HB.lt; omega
  have gw1 : w.heap.size ≤ b1 := by have := HB.lt; omega
  have gw2 : w.heap.size ≤ b2 := by have := HB.lt; omega
  have gw3 : w.heap.size ≤ b3 := by have := HB.lt; omega
  replace HB := HB.below hb
  clear hb c0 c1 c2 c3 c4
  obtain ⟨x0, x1, x2, x3, x4⟩ := HX.cells
  have z3 := HX.fz 3
  go_upto_region 7 with fail
  have HX2 : At5 (w5.setCell ⟨b1, 3, none⟩ (.int .i16 off)) b1 o d s off i := set_at HX 3 _
  replace HX := HX2
  replace HY := HY.other (fun e => n12 e.symm) (c := b1) 3 (.int .i16 off)
  replace HZ := HZ.other (fun e => n13 e.symm) (c := b1) 3 (.int .i16 off)
  replace HB := HB.other nB1 3 (.int .i16 off)
  replace HG := HG.setCell (p := ⟨b1, 3, none⟩) gw1 (.int .i16 off)
  clear x0 x1 x2 x3 x4 z3 HX2
  generalize w5.setCell ⟨b1, 3, none⟩ (.int .i16 off) = w6 at HX HY HZ HB HG ⊢
  obtain ⟨x0, x1, x2, x3, x4⟩ := HY.cells
  have z3 := HY.fz 4
  go_upto_region 8 with fail
  have HY2 : At5 (w6.setCell ⟨b2, 4, none⟩ (.int .i32 imm)) b2 o d s f imm := set_at HY 4 _
  replace HY := HY2
  replace HX := HX.other n12 (c := b2) 4 (.int .i32 imm)
  replace HZ := HZ.other (fun e => n23 e.symm) (c := b2) 4 (.int .i32 imm)
  replace HB := HB.other nB2 4 (.int .i32 imm)
  replace HG := HG.setCell (p := ⟨b2, 4, none⟩) gw2 (.int .i32 imm)
  clear x0 x1 x2 x3 x4 z3 HY2
  generalize w6.setCell ⟨b2, 4, none⟩ (.int .i32 imm) = w7 at HX HY HZ HB HG ⊢
  obtain ⟨x0, x1, x2, x3, x4⟩ := HZ.cells
  have z3 := HZ.fz 2
  go_upto_region 9 with fail
  have HZ2 : At5 (w7.setCell ⟨b3, 2, none⟩ (.int .u8 src)) b3 o d src f i := set_at HZ 2 _
  replace HZ := HZ2
  replace HX := HX.other n13 (c := b3) 2 (.int .u8 src)
  replace HY := HY.other n23 (c := b3) 2 (.int .u8 src)
  replace HB := HB.other nB3 2 (.int .u8 src)
  replace HG := HG.setCell (p := ⟨b3, 2, none⟩) gw3 (.int .u8 src)
  clear x0 x1 x2 x3 x4 z3 HZ2
  generalize w7.setCell ⟨b3, 2, none⟩ (.int .u8 src) = w8 at HX HY HZ HB HG ⊢
  obtain ⟨c0, c1, c2, c3, c4⟩ := HB.cells
  obtain ⟨x0, x1, x2, x3, x4⟩ := HX.cells
  obtain ⟨y0, y1, y2, y3, y4⟩ := HY.cells
  obtain ⟨z0, z1, z2, z3, z4⟩ := HZ.cells
  go_upto_region 18 with (first | (go_at_call_of 13 (Value.int IntKind.i16 off); refine (gr_below (kind_any _ _ _ _ _ h0 h1 d0 d1 s0 s1 _)).mono ?_; rintro r w9 ⟨rfl, hb⟩; replace HG := HG.trans (hb.mono HG.size); replace HB := HB.below hb; replace HX := HX.below hb; replace HY := HY.below hb; replace HZ := HZ.below hb; clear hb; obtain ⟨c0, c1, c2, c3, c4⟩ := HB.cells; obtain ⟨x0, x1, x2, x3, x4⟩ := HX.cells; obtain ⟨y0, y1, y2, y3, y4⟩ := HY.cells; obtain ⟨z0, z1, z2, z3, z4⟩ := HZ.cells) | (go_at_call_of 13 (Value.int IntKind.i32 imm); refine (gr_below (kind_any _ _ _ _ _ h0 h1 d0 d1 s0 s1 _)).mono ?_; rintro r w9 ⟨rfl, hb⟩; replace HG := HG.trans (hb.mono HG.size); replace HB := HB.below hb; replace HX := HX.below hb; replace HY := HY.below hb; replace HZ := HZ.below hb; clear hb; obtain ⟨c0, c1, c2, c3, c4⟩ := HB.cells; obtain ⟨x0, x1, x2, x3, x4⟩ := HX.cells; obtain ⟨y0, y1, y2, y3, y4⟩ := HY.cells; obtain ⟨z0, z1, z2, z3, z4⟩ := HZ.cells) | (go_at_call_of 13 (Value.int IntKind.u8 src); refine (gr_below (kind_any _ _ _ _ _ h0 h1 d0 d1 r0 r1 _)).mono ?_; rintro r w9 ⟨rfl, hb⟩; replace HG := HG.trans (hb.mono HG.size); replace HB := HB.below hb; replace HX := HX.below hb; replace HY := HY.below hb; replace HZ := HZ.below hb; clear hb; obtain ⟨c0, c1, c2, c3, c4⟩ := HB.cells; obtain ⟨x0, x1, x2, x3, x4⟩ := HX.cells; obtain ⟨y0, y1, y2, y3, y4⟩ := HY.cells; obtain ⟨z0, z1, z2, z3, z4⟩ := HZ.cells) | (go_at_call 15; refine (gr_below (ex_gr (code_any _ _ _ _ _ h0 h1 _))).mono ?_; rintro r w9 ⟨rfl, hb⟩; replace HG := HG.trans (hb.mono HG.size); replace HB := HB.below hb; replace HX := HX.below hb; replace HY := HY.below hb; replace HZ := HZ.below hb; clear hb; obtain ⟨c0, c1, c2, c3, c4⟩ := HB.cells; obtain ⟨x0, x1, x2, x3, x4⟩ := HX.cells; obtain ⟨y0, y1, y2, y3, y4⟩ := HY.cells; obtain ⟨z0, z1, z2, z3, z4⟩ := HZ.cells) | (go_at_call 8; refine (alive_any _).mono ?_; rintro r w9 ⟨rfl, hb⟩; replace HG := HG.trans (hb.mono HG.size); replace HB := HB.below hb; replace HX := HX.below hb; replace HY := HY.below hb; replace HZ := HZ.below hb; clear hb; obtain ⟨c0, c1, c2, c3, c4⟩ := HB.cells; obtain ⟨x0, x1, x2, x3, x4⟩ := HX.cells; obtain ⟨y0, y1, y2, y3, y4⟩ := HY.cells; obtain ⟨z0, z1, z2, z3, z4⟩ := HZ.cells))
  have hne : Nonempty (GbBy w9) := ⟨⟨w9, Below.refl _ _⟩⟩
  have pb0 := fun p => (HB.allb p).1
  have pb1 := fun p => (HB.allb p).2.1
  have pb2 := fun p => (HB.allb p).2.2.1
  have pb3 := fun p => (HB.allb p).2.2.2.1
  have pb4 := fun p => (HB.allb p).2.2.2.2
  have pz0 := fun p => (HZ.allb p).1
  have pz1 := fun p => (HZ.allb p).2.1
  have pz2 := fun p => (HZ.allb p).2.2.1
  have pz3 := fun p => (HZ.allb p).2.2.2.1
  have pz4 := fun p => (HZ.allb p).2.2.2.2
  refine wp_region_gb (by kernel_rfl) (by kernel_rfl) ?_
  repeat (first
    | go_big_quiet_skip
    | (go_big_quiet_want; go_big_quiet_op; first
      | go_big_quiet_on
      | (apply Exists.intro
         refine ⟨fun p => ?_, ?_⟩
         · first
           | (go_at_call 13; exact calls_gb (gr_below (kind_any _ _ _ _ _ h0 h1 d0 d1 r0 r1 _)))
           | (go_at_call 8; exact calls_gb (alive_any _))
         go_big_quiet_on)))
  refine wpQuiet_nil ?_
  intro _ hw'
  obtain ⟨⟨wq, hq⟩, rfl⟩ := hw'
  go_wp2
  go_returns
  rw [← hBs]
  exact ⟨rfl, HG.trans (hq.mono HG.size)⟩
set_option maxHeartbeats 16000000 in
theorem strict_7 (o d s f i off imm src : Int) (h0 : 0 ≤ o) (h1 : o ≤ 255) (d0 : 0 ≤ d) (d1 : d ≤ 255) (s0 : 0 ≤ s) (s1 : s ≤ 255) (r0 : 0 ≤ src) (r1 : src ≤ 255) (hk : kV o d s f i = 7)  (w : World) : Calls Try.prog 7 #[ins o d s f i, .int .i16 off, .int .i32 imm, .int .u8 src] w fun e w' => e = .returned (.bool true) ∧ Below w.heap.size w w' := by
  obtain ⟨ha, hb', hc'⟩ := st_7 o d s f i off imm src s0 r0 hk
  have e8 : bits .and .u8 o 8 = o / 8 % 2 * 8 := and8 o h0 h1
  have ex : (o / 8 % 2 * 8 != 0) = xB o := x_ne o
  go_enter Try.func7, Try.ntmps7
  go_upto_region 1 with fail
  have HG : Below w.heap.size w (w.alloc (Obj.cells #[.int .u8 o, .int .u8 d, .int .u8 s, .int .i16 f, .int .i32 i] 24)) := (Below.refl _ w).alloc (Nat.le_refl _) _
  have HB := At5.new w o d s f i
  generalize (w.alloc (Obj.cells #[.int .u8 o, .int .u8 d, .int .u8 s, .int .i16 f, .int .i32 i] 24)) = W at HG HB ⊢
  generalize hBs : w.heap.size = B at HB ⊢
  obtain ⟨c0, c1, c2, c3, c4⟩ := HB.cells
  go_upto_region 5 with (first | (go_at_call 13; refine (gr_below (kind_any _ _ _ _ _ h0 h1 d0 d1 s0 s1 _)).mono ?_; rw [hk]; rintro r w1 ⟨rfl, hb⟩; replace HG := HG.trans (hb.mono HG.size); replace HB := HB.below hb; clear hb; obtain ⟨c0, c1, c2, c3, c4⟩ := HB.cells))
  refine reg75 _ B o d s f i HB _ _ rfl rfl rfl ?_
  intro w5 b1 b2 b3 HX HY HZ n12 n13 n23 g1 g2 g3 hb
  replace HG := HG.trans (hb.mono HG.size)
  have nB1 : B ≠ b1 := by have := HB.lt; omega
  have nB2 : B ≠ b2 := by have := HB.lt; omega
  have nB3 : B ≠ b3 := by have := HB.lt; omega
  have gw1 : w.heap.size ≤ b1 := by have := HB.lt; omega
  have gw2 : w.heap.size ≤ b2 := by have := HB.lt; omega
  have gw3 : w.heap.size ≤ b3 := by have := HB.lt; omega
  replace HB := HB.below hb
  clear hb c0 c1 c2 c3 c4
  obtain ⟨x0, x1, x2, x3, x4⟩ := HX.cells
  have z3 := HX.fz 3
  go_upto_region 7 with fail
  have HX2 : At5 (w5.setCell ⟨b1, 3, none⟩ (.int .i16 off)) b1 o d s off i := set_at HX 3 _
  replace HX := HX2
  replace HY := HY.other (fun e => n12 e.symm) (c := b1) 3 (.int .i16 off)
  replace HZ := HZ.other (fun e => n13 e.symm) (c := b1) 3 (.int .i16 off)
  replace HB := HB.other nB1 3 (.int .i16 off)
  replace HG := HG.setCell (p := ⟨b1, 3, none⟩) gw1 (.int .i16 off)
  clear x0 x1 x2 x3 x4 z3 HX2
  generalize w5.setCell ⟨b1, 3, none⟩ (.int .i16 off) = w6 at HX HY HZ HB HG ⊢
  obtain ⟨x0, x1, x2, x3, x4⟩ := HY.cells
  have z3 := HY.fz 4
  go_upto_region 8 with fail
  have HY2 : At5 (w6.setCell ⟨b2, 4, none⟩ (.int .i32 imm)) b2 o d s f imm := set_at HY 4 _
  replace HY := HY2
  replace HX := HX.other n12 (c := b2) 4 (.int .i32 imm)
  replace HZ := HZ.other (fun e => n23 e.symm) (c := b2) 4 (.int .i32 imm)
  replace HB := HB.other nB2 4 (.int .i32 imm)
  replace HG := HG.setCell (p := ⟨b2, 4, none⟩) gw2 (.int .i32 imm)
  clear x0 x1 x2 x3 x4 z3 HY2
  generalize w6.setCell ⟨b2, 4, none⟩ (.int .i32 imm) = w7 at HX HY HZ HB HG ⊢
  obtain ⟨x0, x1, x2, x3, x4⟩ := HZ.cells
  have z3 := HZ.fz 2
  go_upto_region 9 with fail
  have HZ2 : At5 (w7.setCell ⟨b3, 2, none⟩ (.int .u8 src)) b3 o d src f i := set_at HZ 2 _
  replace HZ := HZ2
  replace HX := HX.other n13 (c := b3) 2 (.int .u8 src)
  replace HY := HY.other n23 (c := b3) 2 (.int .u8 src)
  replace HB := HB.other nB3 2 (.int .u8 src)
  replace HG := HG.setCell (p := ⟨b3, 2, none⟩) gw3 (.int .u8 src)
  clear x0 x1 x2 x3 x4 z3 HZ2
  generalize w7.setCell ⟨b3, 2, none⟩ (.int .u8 src) = w8 at HX HY HZ HB HG ⊢
  obtain ⟨c0, c1, c2, c3, c4⟩ := HB.cells
  obtain ⟨x0, x1, x2, x3, x4⟩ := HX.cells
  obtain ⟨y0, y1, y2, y3, y4⟩ := HY.cells
  obtain ⟨z0, z1, z2, z3, z4⟩ := HZ.cells
  go_upto_region 18 with (first | (go_at_call_of 13 (Value.int IntKind.i16 off); refine (gr_below (kind_any _ _ _ _ _ h0 h1 d0 d1 s0 s1 _)).mono ?_; rintro r w9 ⟨rfl, hb⟩; replace HG := HG.trans (hb.mono HG.size); replace HB := HB.below hb; replace HX := HX.below hb; replace HY := HY.below hb; replace HZ := HZ.below hb; clear hb; obtain ⟨c0, c1, c2, c3, c4⟩ := HB.cells; obtain ⟨x0, x1, x2, x3, x4⟩ := HX.cells; obtain ⟨y0, y1, y2, y3, y4⟩ := HY.cells; obtain ⟨z0, z1, z2, z3, z4⟩ := HZ.cells) | (go_at_call_of 13 (Value.int IntKind.i32 imm); refine (gr_below (kind_any _ _ _ _ _ h0 h1 d0 d1 s0 s1 _)).mono ?_; rintro r w9 ⟨rfl, hb⟩; replace HG := HG.trans (hb.mono HG.size); replace HB := HB.below hb; replace HX := HX.below hb; replace HY := HY.below hb; replace HZ := HZ.below hb; clear hb; obtain ⟨c0, c1, c2, c3, c4⟩ := HB.cells; obtain ⟨x0, x1, x2, x3, x4⟩ := HX.cells; obtain ⟨y0, y1, y2, y3, y4⟩ := HY.cells; obtain ⟨z0, z1, z2, z3, z4⟩ := HZ.cells) | (go_at_call_of 13 (Value.int IntKind.u8 src); refine (gr_below (kind_any _ _ _ _ _ h0 h1 d0 d1 r0 r1 _)).mono ?_; rintro r w9 ⟨rfl, hb⟩; replace HG := HG.trans (hb.mono HG.size); replace HB := HB.below hb; replace HX := HX.below hb; replace HY := HY.below hb; replace HZ := HZ.below hb; clear hb; obtain ⟨c0, c1, c2, c3, c4⟩ := HB.cells; obtain ⟨x0, x1, x2, x3, x4⟩ := HX.cells; obtain ⟨y0, y1, y2, y3, y4⟩ := HY.cells; obtain ⟨z0, z1, z2, z3, z4⟩ := HZ.cells) | (go_at_call 15; refine (gr_below (ex_gr (code_any _ _ _ _ _ h0 h1 _))).mono ?_; rintro r w9 ⟨rfl, hb⟩; replace HG := HG.trans (hb.mono HG.size); replace HB := HB.below hb; replace HX := HX.below hb; replace HY := HY.below hb; replace HZ := HZ.below hb; clear hb; obtain ⟨c0, c1, c2, c3, c4⟩ := HB.cells; obtain ⟨x0, x1, x2, x3, x4⟩ := HX.cells; obtain ⟨y0, y1, y2, y3, y4⟩ := HY.cells; obtain ⟨z0, z1, z2, z3, z4⟩ := HZ.cells) | (go_at_call 8; refine (alive_any _).mono ?_; rintro r w9 ⟨rfl, hb⟩; replace HG := HG.trans (hb.mono HG.size); replace HB := HB.below hb; replace HX := HX.below hb; replace HY := HY.below hb; replace HZ := HZ.below hb; clear hb; obtain ⟨c0, c1, c2, c3, c4⟩ := HB.cells; obtain ⟨x0, x1, x2, x3, x4⟩ := HX.cells; obtain ⟨y0, y1, y2, y3, y4⟩ := HY.cells; obtain ⟨z0, z1, z2, z3, z4⟩ := HZ.cells))
  have hne : Nonempty (GbBy w9) := ⟨⟨w9, Below.refl _ _⟩⟩
  have pb0 := fun p => (HB.allb p).1
  have pb1 := fun p => (HB.allb p).2.1
  have pb2 := fun p => (HB.allb p).2.2.1
  have pb3 := fun p => (HB.allb p).2.2.2.1
  have pb4 := fun p => (HB.allb p).2.2.2.2
  have pz0 := fun p => (HZ.allb p).1
  have pz1 := fun p => (HZ.allb p).2.1
  have pz2 := fun p => (HZ.allb p).2.2.1
  have pz3 := fun p => (HZ.allb p).2.2.2.1
  have pz4 := fun p => (HZ.allb p).2.2.2.2
  refine wp_region_gb (by kernel_rfl) (by kernel_rfl) ?_
  repeat (first
    | go_big_quiet_skip
    | (go_big_quiet_want; go_big_quiet_op; first
      | go_big_quiet_on
      | (apply Exists.intro
         refine ⟨fun p => ?_, ?_⟩
         · first
           | (go_at_call 13; exact calls_gb (gr_below (kind_any _ _ _ _ _ h0 h1 d0 d1 r0 r1 _)))
           | (go_at_call 8; exact calls_gb (alive_any _))
         go_big_quiet_on)))
  refine wpQuiet_nil ?_
  intro _ hw'
  obtain ⟨⟨wq, hq⟩, rfl⟩ := hw'
  go_wp2
  go_returns
  rw [← hBs]
  exact ⟨rfl, HG.trans (hq.mono HG.size)⟩
set_option maxHeartbeats 16000000 in
theorem strict_9 (o d s f i off imm src : Int) (h0 : 0 ≤ o) (h1 : o ≤ 255) (d0 : 0 ≤ d) (d1 : d ≤ 255) (s0 : 0 ≤ s) (s1 : s ≤ 255) (r0 : 0 ≤ src) (r1 : src ≤ 255) (hk : kV o d s f i = 9)  (w : World) : Calls Try.prog 7 #[ins o d s f i, .int .i16 off, .int .i32 imm, .int .u8 src] w fun e w' => e = .returned (.bool true) ∧ Below w.heap.size w w' := by
  obtain ⟨ha, hb', hc'⟩ := st_9 o d s f i off imm src s0 r0 hk
  have e8 : bits .and .u8 o 8 = o / 8 % 2 * 8 := and8 o h0 h1
  have ex : (o / 8 % 2 * 8 != 0) = xB o := x_ne o
  go_enter Try.func7, Try.ntmps7
  go_upto_region 1 with fail
  have HG : Below w.heap.size w (w.alloc (Obj.cells #[.int .u8 o, .int .u8 d, .int .u8 s, .int .i16 f, .int .i32 i] 24)) := (Below.refl _ w).alloc (Nat.le_refl _) _
  have HB := At5.new w o d s f i
  generalize (w.alloc (Obj.cells #[.int .u8 o, .int .u8 d, .int .u8 s, .int .i16 f, .int .i32 i] 24)) = W at HG HB ⊢
  generalize hBs : w.heap.size = B at HB ⊢
  obtain ⟨c0, c1, c2, c3, c4⟩ := HB.cells
  go_upto_region 5 with (first | (go_at_call 13; refine (gr_below (kind_any _ _ _ _ _ h0 h1 d0 d1 s0 s1 _)).mono ?_; rw [hk]; rintro r w1 ⟨rfl, hb⟩; replace HG := HG.trans (hb.mono HG.size); replace HB := HB.below hb; clear hb; obtain ⟨c0, c1, c2, c3, c4⟩ := HB.cells))
  refine reg75 _ B o d s f i HB _ _ rfl rfl rfl ?_
  intro w5 b1 b2 b3 HX HY HZ n12 n13 n23 g1 g2 g3 hb
  replace HG := HG.trans (hb.mono HG.size)
  have nB1 : B ≠ b1 := by have := HB.lt; omega
  have nB2 : B ≠ b2 := by have := HB.lt; omega
  have nB3 : B ≠ b3 := by have := HB.lt; omega
  have gw1 : w.heap.size ≤ b1 := by have := HB.lt; omega
  have gw2 : w.heap.size ≤ b2 := by have := HB.lt; omega
  have gw3 : w.heap.size ≤ b3 := by have := HB.lt; omega
  replace HB := HB.below hb
  clear hb c0 c1 c2 c3 c4
  obtain ⟨x0, x1, x2, x3, x4⟩ := HX.cells
  have z3 := HX.fz 3
  go_upto_region 7 with fail
  have HX2 : At5 (w5.setCell ⟨b1, 3, none⟩ (.int .i16 off)) b1 o d s off i := set_at HX 3 _
  replace HX := HX2
  replace HY := HY.other (fun e => n12 e.symm) (c := b1) 3 (.int .i16 off)
  replace HZ := HZ.other (fun e => n13 e.symm) (c := b1) 3 (.int .i16 off)
  replace HB := HB.other nB1 3 (.int .i16 off)
  replace HG := HG.setCell (p := ⟨b1, 3, none⟩) gw1 (.int .i16 off)
  clear x0 x1 x2 x3 x4 z3 HX2
  generalize w5.setCell ⟨b1, 3, none⟩ (.int .i16 off) = w6 at HX HY HZ HB HG ⊢
  obtain ⟨x0, x1, x2, x3, x4⟩ := HY.cells
  have z3 := HY.fz 4
  go_upto_region 8 with fail
  have HY2 : At5 (w6.setCell ⟨b2, 4, none⟩ (.int .i32 imm)) b2 o d s f imm := set_at HY 4 _
  replace HY := HY2
  replace HX := HX.other n12 (c := b2) 4 (.int .i32 imm)
  replace HZ := HZ.other (fun e => n23 e.symm) (c := b2) 4 (.int .i32 imm)
  replace HB := HB.other nB2 4 (.int .i32 imm)
  replace HG := HG.setCell (p := ⟨b2, 4, none⟩) gw2 (.int .i32 imm)
  clear x0 x1 x2 x3 x4 z3 HY2
  generalize w6.setCell ⟨b2, 4, none⟩ (.int .i32 imm) = w7 at HX HY HZ HB HG ⊢
  obtain ⟨x0, x1, x2, x3, x4⟩ := HZ.cells
  have z3 := HZ.fz 2
  go_upto_region 9 with fail
  have HZ2 : At5 (w7.setCell ⟨b3, 2, none⟩ (.int .u8 src)) b3 o d src f i := set_at HZ 2 _
  replace HZ := HZ2
  replace HX := HX.other n13 (c := b3) 2 (.int .u8 src)
  replace HY := HY.other n23 (c := b3) 2 (.int .u8 src)
  replace HB := HB.other nB3 2 (.int .u8 src)
  replace HG := HG.setCell (p := ⟨b3, 2, none⟩) gw3 (.int .u8 src)
  clear x0 x1 x2 x3 x4 z3 HZ2
  generalize w7.setCell ⟨b3, 2, none⟩ (.int .u8 src) = w8 at HX HY HZ HB HG ⊢
  obtain ⟨c0, c1, c2, c3, c4⟩ := HB.cells
  obtain ⟨x0, x1, x2, x3, x4⟩ := HX.cells
  obtain ⟨y0, y1, y2, y3, y4⟩ := HY.cells
  obtain ⟨z0, z1, z2, z3, z4⟩ := HZ.cells
  go_wp2_with (first | (go_at_call_of 13 (Value.int IntKind.i16 off); refine (gr_below (kind_any _ _ _ _ _ h0 h1 d0 d1 s0 s1 _)).mono ?_; rintro r w9 ⟨rfl, hb⟩; replace HG := HG.trans (hb.mono HG.size); replace HB := HB.below hb; replace HX := HX.below hb; replace HY := HY.below hb; replace HZ := HZ.below hb; clear hb; obtain ⟨c0, c1, c2, c3, c4⟩ := HB.cells; obtain ⟨x0, x1, x2, x3, x4⟩ := HX.cells; obtain ⟨y0, y1, y2, y3, y4⟩ := HY.cells; obtain ⟨z0, z1, z2, z3, z4⟩ := HZ.cells) | (go_at_call_of 13 (Value.int IntKind.i32 imm); refine (gr_below (kind_any _ _ _ _ _ h0 h1 d0 d1 s0 s1 _)).mono ?_; rintro r w9 ⟨rfl, hb⟩; replace HG := HG.trans (hb.mono HG.size); replace HB := HB.below hb; replace HX := HX.below hb; replace HY := HY.below hb; replace HZ := HZ.below hb; clear hb; obtain ⟨c0, c1, c2, c3, c4⟩ := HB.cells; obtain ⟨x0, x1, x2, x3, x4⟩ := HX.cells; obtain ⟨y0, y1, y2, y3, y4⟩ := HY.cells; obtain ⟨z0, z1, z2, z3, z4⟩ := HZ.cells) | (go_at_call_of 13 (Value.int IntKind.u8 src); refine (gr_below (kind_any _ _ _ _ _ h0 h1 d0 d1 r0 r1 _)).mono ?_; rintro r w9 ⟨rfl, hb⟩; replace HG := HG.trans (hb.mono HG.size); replace HB := HB.below hb; replace HX := HX.below hb; replace HY := HY.below hb; replace HZ := HZ.below hb; clear hb; obtain ⟨c0, c1, c2, c3, c4⟩ := HB.cells; obtain ⟨x0, x1, x2, x3, x4⟩ := HX.cells; obtain ⟨y0, y1, y2, y3, y4⟩ := HY.cells; obtain ⟨z0, z1, z2, z3, z4⟩ := HZ.cells) | (go_at_call 15; refine (gr_below (ex_gr (code_any _ _ _ _ _ h0 h1 _))).mono ?_; rintro r w9 ⟨rfl, hb⟩; replace HG := HG.trans (hb.mono HG.size); replace HB := HB.below hb; replace HX := HX.below hb; replace HY := HY.below hb; replace HZ := HZ.below hb; clear hb; obtain ⟨c0, c1, c2, c3, c4⟩ := HB.cells; obtain ⟨x0, x1, x2, x3, x4⟩ := HX.cells; obtain ⟨y0, y1, y2, y3, y4⟩ := HY.cells; obtain ⟨z0, z1, z2, z3, z4⟩ := HZ.cells) | (go_at_call 8; refine (alive_any _).mono ?_; rintro r w9 ⟨rfl, hb⟩; replace HG := HG.trans (hb.mono HG.size); replace HB := HB.below hb; replace HX := HX.below hb; replace HY := HY.below hb; replace HZ := HZ.below hb; clear hb; obtain ⟨c0, c1, c2, c3, c4⟩ := HB.cells; obtain ⟨x0, x1, x2, x3, x4⟩ := HX.cells; obtain ⟨y0, y1, y2, y3, y4⟩ := HY.cells; obtain ⟨z0, z1, z2, z3, z4⟩ := HZ.cells))
  go_returns
  rw [← hBs]
  exact ⟨rfl, HG⟩
set_option maxHeartbeats 16000000 in
theorem strict_8 (o d s f i off imm src : Int) (h0 : 0 ≤ o) (h1 : o ≤ 255) (d0 : 0 ≤ d) (d1 : d ≤ 255) (s0 : 0 ≤ s) (s1 : s ≤ 255) (r0 : 0 ≤ src) (r1 : src ≤ 255) (hk : kV o d s f i = 8)  (w : World) : Calls Try.prog 7 #[ins o d s f i, .int .i16 off, .int .i32 imm, .int .u8 src] w fun e w' => e = .returned (.bool true) ∧ Below w.heap.size w w' := by
  obtain ⟨ha, hb', hc'⟩ := st_8 o d s f i off imm src s0 r0 hk
  have e8 : bits .and .u8 o 8 = o / 8 % 2 * 8 := and8 o h0 h1
  have ex : (o / 8 % 2 * 8 != 0) = xB o := x_ne o
  go_enter Try.func7, Try.ntmps7
  go_upto_region 1 with fail
  have HG : Below w.heap.size w (w.alloc (Obj.cells #[.int .u8 o, .int .u8 d, .int .u8 s, .int .i16 f, .int .i32 i] 24)) := (Below.refl _ w).alloc (Nat.le_refl _) _
  have HB := At5.new w o d s f i
  generalize (w.alloc (Obj.cells #[.int .u8 o, .int .u8 d, .int .u8 s, .int .i16 f, .int .i32 i] 24)) = W at HG HB ⊢
  generalize hBs : w.heap.size = B at HB ⊢
  obtain ⟨c0, c1, c2, c3, c4⟩ := HB.cells
  go_upto_region 5 with (first | (go_at_call 13; refine (gr_below (kind_any _ _ _ _ _ h0 h1 d0 d1 s0 s1 _)).mono ?_; rw [hk]; rintro r w1 ⟨rfl, hb⟩; replace HG := HG.trans (hb.mono HG.size); replace HB := HB.below hb; clear hb; obtain ⟨c0, c1, c2, c3, c4⟩ := HB.cells))
  refine reg75 _ B o d s f i HB _ _ rfl rfl rfl ?_
  intro w5 b1 b2 b3 HX HY HZ n12 n13 n23 g1 g2 g3 hb
  replace HG := HG.trans (hb.mono HG.size)
  have nB1 : B ≠ b1 := by have := HB.lt; omega
  have nB2 : B ≠ b2 := by have := HB.lt; omega
  have nB3 : B ≠ b3 := by have := HB.lt; omega
  have gw1 : w.heap.size ≤ b1 := by have := HB.lt; omega
  have gw2 : w.heap.size ≤ b2 := by have := HB.lt; omega
  have gw3 : w.heap.size ≤ b3 := by have := HB.lt; omega
  replace HB := HB.below hb
  clear hb c0 c1 c2 c3 c4
  obtain ⟨x0, x1, x2, x3, x4⟩ := HX.cells
  have z3 := HX.fz 3
  go_upto_region 7 with fail
  have HX2 : At5 (w5.setCell ⟨b1, 3, none⟩ (.int .i16 off)) b1 o d s off i := set_at HX 3 _
  replace HX := HX2
  replace HY := HY.other (fun e => n12 e.symm) (c := b1) 3 (.int .i16 off)
  replace HZ := HZ.other (fun e => n13 e.symm) (c := b1) 3 (.int .i16 off)
  replace HB := HB.other nB1 3 (.int .i16 off)
  replace HG := HG.setCell (p := ⟨b1, 3, none⟩) gw1 (.int .i16 off)
  clear x0 x1 x2 x3 x4 z3 HX2
  generalize w5.setCell ⟨b1, 3, none⟩ (.int .i16 off) = w6 at HX HY HZ HB HG ⊢
  obtain ⟨x0, x1, x2, x3, x4⟩ := HY.cells
  have z3 := HY.fz 4
  go_upto_region 8 with fail
  have HY2 : At5 (w6.setCell ⟨b2, 4, none⟩ (.int .i32 imm)) b2 o d s f imm := set_at HY 4 _
  replace HY := HY2
  replace HX := HX.other n12 (c := b2) 4 (.int .i32 imm)
  replace HZ := HZ.other (fun e => n23 e.symm) (c := b2) 4 (.int .i32 imm)
  replace HB := HB.other nB2 4 (.int .i32 imm)
  replace HG := HG.setCell (p := ⟨b2, 4, none⟩) gw2 (.int .i32 imm)
  clear x0 x1 x2 x3 x4 z3 HY2
  generalize w6.setCell ⟨b2, 4, none⟩ (.int .i32 imm) = w7 at HX HY HZ HB HG ⊢
  obtain ⟨x0, x1, x2, x3, x4⟩ := HZ.cells
  have z3 := HZ.fz 2
  go_upto_region 9 with fail
  have HZ2 : At5 (w7.setCell ⟨b3, 2, none⟩ (.int .u8 src)) b3 o d src f i := set_at HZ 2 _
  replace HZ := HZ2
  replace HX := HX.other n13 (c := b3) 2 (.int .u8 src)
  replace HY := HY.other n23 (c := b3) 2 (.int .u8 src)
  replace HB := HB.other nB3 2 (.int .u8 src)
  replace HG := HG.setCell (p := ⟨b3, 2, none⟩) gw3 (.int .u8 src)
  clear x0 x1 x2 x3 x4 z3 HZ2
  generalize w7.setCell ⟨b3, 2, none⟩ (.int .u8 src) = w8 at HX HY HZ HB HG ⊢
  obtain ⟨c0, c1, c2, c3, c4⟩ := HB.cells
  obtain ⟨x0, x1, x2, x3, x4⟩ := HX.cells
  obtain ⟨y0, y1, y2, y3, y4⟩ := HY.cells
  obtain ⟨z0, z1, z2, z3, z4⟩ := HZ.cells
  go_upto_region 18 with (first | (go_at_call_of 13 (Value.int IntKind.i16 off); refine (gr_below (kind_any _ _ _ _ _ h0 h1 d0 d1 s0 s1 _)).mono ?_; rintro r w9 ⟨rfl, hb⟩; replace HG := HG.trans (hb.mono HG.size); replace HB := HB.below hb; replace HX := HX.below hb; replace HY := HY.below hb; replace HZ := HZ.below hb; clear hb; obtain ⟨c0, c1, c2, c3, c4⟩ := HB.cells; obtain ⟨x0, x1, x2, x3, x4⟩ := HX.cells; obtain ⟨y0, y1, y2, y3, y4⟩ := HY.cells; obtain ⟨z0, z1, z2, z3, z4⟩ := HZ.cells) | (go_at_call_of 13 (Value.int IntKind.i32 imm); refine (gr_below (kind_any _ _ _ _ _ h0 h1 d0 d1 s0 s1 _)).mono ?_; rintro r w9 ⟨rfl, hb⟩; replace HG := HG.trans (hb.mono HG.size); replace HB := HB.below hb; replace HX := HX.below hb; replace HY := HY.below hb; replace HZ := HZ.below hb; clear hb; obtain ⟨c0, c1, c2, c3, c4⟩ := HB.cells; obtain ⟨x0, x1, x2, x3, x4⟩ := HX.cells; obtain ⟨y0, y1, y2, y3, y4⟩ := HY.cells; obtain ⟨z0, z1, z2, z3, z4⟩ := HZ.cells) | (go_at_call_of 13 (Value.int IntKind.u8 src); refine (gr_below (kind_any _ _ _ _ _ h0 h1 d0 d1 r0 r1 _)).mono ?_; rintro r w9 ⟨rfl, hb⟩; replace HG := HG.trans (hb.mono HG.size); replace HB := HB.below hb; replace HX := HX.below hb; replace HY := HY.below hb; replace HZ := HZ.below hb; clear hb; obtain ⟨c0, c1, c2, c3, c4⟩ := HB.cells; obtain ⟨x0, x1, x2, x3, x4⟩ := HX.cells; obtain ⟨y0, y1, y2, y3, y4⟩ := HY.cells; obtain ⟨z0, z1, z2, z3, z4⟩ := HZ.cells) | (go_at_call 15; refine (gr_below (ex_gr (code_any _ _ _ _ _ h0 h1 _))).mono ?_; rintro r w9 ⟨rfl, hb⟩; replace HG := HG.trans (hb.mono HG.size); replace HB := HB.below hb; replace HX := HX.below hb; replace HY := HY.below hb; replace HZ := HZ.below hb; clear hb; obtain ⟨c0, c1, c2, c3, c4⟩ := HB.cells; obtain ⟨x0, x1, x2, x3, x4⟩ := HX.cells; obtain ⟨y0, y1, y2, y3, y4⟩ := HY.cells; obtain ⟨z0, z1, z2, z3, z4⟩ := HZ.cells) | (go_at_call 8; refine (alive_any _).mono ?_; rintro r w9 ⟨rfl, hb⟩; replace HG := HG.trans (hb.mono HG.size); replace HB := HB.below hb; replace HX := HX.below hb; replace HY := HY.below hb; replace HZ := HZ.below hb; clear hb; obtain ⟨c0, c1, c2, c3, c4⟩ := HB.cells; obtain ⟨x0, x1, x2, x3, x4⟩ := HX.cells; obtain ⟨y0, y1, y2, y3, y4⟩ := HY.cells; obtain ⟨z0, z1, z2, z3, z4⟩ := HZ.cells))
  have hne : Nonempty (GbBy w9) := ⟨⟨w9, Below.refl _ _⟩⟩
  have pb0 := fun p => (HB.allb p).1
  have pb1 := fun p => (HB.allb p).2.1
  have pb2 := fun p => (HB.allb p).2.2.1
  have pb3 := fun p => (HB.allb p).2.2.2.1
  have pb4 := fun p => (HB.allb p).2.2.2.2
  have pz0 := fun p => (HZ.allb p).1
  have pz1 := fun p => (HZ.allb p).2.1
  have pz2 := fun p => (HZ.allb p).2.2.1
  have pz3 := fun p => (HZ.allb p).2.2.2.1
  have pz4 := fun p => (HZ.allb p).2.2.2.2
  refine wp_region_gb (by kernel_rfl) (by kernel_rfl) ?_
  repeat (first
    | go_big_quiet_skip
    | (go_big_quiet_want; go_big_quiet_op; first
      | go_big_quiet_on
      | (apply Exists.intro
         refine ⟨fun p => ?_, ?_⟩
         · first
           | (go_at_call 13; exact calls_gb (gr_below (kind_any _ _ _ _ _ h0 h1 d0 d1 r0 r1 _)))
           | (go_at_call 8; exact calls_gb (alive_any _))
         go_big_quiet_on)))
  refine wpQuiet_nil ?_
  intro _ hw'
  obtain ⟨⟨wq, hq⟩, rfl⟩ := hw'
  go_wp2
  go_returns
  rw [← hBs]
  exact ⟨rfl, HG.trans (hq.mono HG.size)⟩
set_option maxHeartbeats 16000000 in
theorem strict_10 (o d s f i off imm src : Int) (h0 : 0 ≤ o) (h1 : o ≤ 255) (d0 : 0 ≤ d) (d1 : d ≤ 255) (s0 : 0 ≤ s) (s1 : s ≤ 255) (r0 : 0 ≤ src) (r1 : src ≤ 255) (hk : kV o d s f i = 10)  (w : World) : Calls Try.prog 7 #[ins o d s f i, .int .i16 off, .int .i32 imm, .int .u8 src] w fun e w' => e = .returned (.bool true) ∧ Below w.heap.size w w' := by
  obtain ⟨ha, hb', hc'⟩ := st_10 o d s f i off imm src s0 r0 hk
  have e8 : bits .and .u8 o 8 = o / 8 % 2 * 8 := and8 o h0 h1
  have ex : (o / 8 % 2 * 8 != 0) = xB o := x_ne o
  go_enter Try.func7, Try.ntmps7
  go_upto_region 1 with fail
  have HG : Below w.heap.size w (w.alloc (Obj.cells #[.int .u8 o, .int .u8 d, .int .u8 s, .int .i16 f, .int .i32 i] 24)) := (Below.refl _ w).alloc (Nat.le_refl _) _
  have HB := At5.new w o d s f i
  generalize (w.alloc (Obj.cells #[.int .u8 o, .int .u8 d, .int .u8 s, .int .i16 f, .int .i32 i] 24)) = W at HG HB ⊢
  generalize hBs : w.heap.size = B at HB ⊢
  obtain ⟨c0, c1, c2, c3, c4⟩ := HB.cells
  go_upto_region 5 with (first | (go_at_call 13; refine (gr_below (kind_any _ _ _ _ _ h0 h1 d0 d1 s0 s1 _)).mono ?_; rw [hk]; rintro r w1 ⟨rfl, hb⟩; replace HG := HG.trans (hb.mono HG.size); replace HB := HB.below hb; clear hb; obtain ⟨c0, c1, c2, c3, c4⟩ := HB.cells))
  refine reg75 _ B o d s f i HB _ _ rfl rfl rfl ?_
  intro w5 b1 b2 b3 HX HY HZ n12 n13 n23 g1 g2 g3 hb
  replace HG := HG.trans (hb.mono HG.size)
  have nB1 : B ≠ b1 := by have := HB.lt; omega
  have nB2 : B ≠ b2 := by have := HB.lt; omega
  have nB3 : B ≠ b3 := by have := HB.lt; omega
  have gw1 : w.heap.size ≤ b1 := by have := HB.lt; omega
  have gw2 : w.heap.size ≤ b2 := by have := HB.lt; omega
  have gw3 : w.heap.size ≤ b3 := by have := HB.lt; omega
  replace HB := HB.below hb
  clear hb c0 c1 c2 c3 c4
  obtain ⟨x0, x1, x2, x3, x4⟩ := HX.cells
  have z3 := HX.fz 3
  go_upto_region 7 with fail
  have HX2 : At5 (w5.setCell ⟨b1, 3, none⟩ (.int .i16 off)) b1 o d s off i := set_at HX 3 _
  replace HX := HX2
  replace HY := HY.other (fun e => n12 e.symm) (c := b1) 3 (.int .i16 off)
  replace HZ := HZ.other (fun e => n13 e.symm) (c := b1) 3 (.int .i16 off)
  replace HB := HB.other nB1 3 (.int .i16 off)
  replace HG := HG.setCell (p := ⟨b1, 3, none⟩) gw1 (.int .i16 off)
  clear x0 x1 x2 x3 x4 z3 HX2
  generalize w5.setCell ⟨b1, 3, none⟩ (.int .i16 off) = w6 at HX HY HZ HB HG ⊢
  obtain ⟨x0, x1, x2, x3, x4⟩ := HY.cells
  have z3 := HY.fz 4
  go_upto_region 8 with fail
  have HY2 : At5 (w6.setCell ⟨b2, 4, none⟩ (.int .i32 imm)) b2 o d s f imm := set_at HY 4 _
  replace HY := HY2
  replace HX := HX.other n12 (c := b2) 4 (.int .i32 imm)
  replace HZ := HZ.other (fun e => n23 e.symm) (c := b2) 4 (.int .i32 imm)
  replace HB := HB.other nB2 4 (.int .i32 imm)
  replace HG := HG.setCell (p := ⟨b2, 4, none⟩) gw2 (.int .i32 imm)
  clear x0 x1 x2 x3 x4 z3 HY2
  generalize w6.setCell ⟨b2, 4, none⟩ (.int .i32 imm) = w7 at HX HY HZ HB HG ⊢
  obtain ⟨x0, x1, x2, x3, x4⟩ := HZ.cells
  have z3 := HZ.fz 2
  go_upto_region 9 with fail
  have HZ2 : At5 (w7.setCell ⟨b3, 2, none⟩ (.int .u8 src)) b3 o d src f i := set_at HZ 2 _
  replace HZ := HZ2
  replace HX := HX.other n13 (c := b3) 2 (.int .u8 src)
  replace HY := HY.other n23 (c := b3) 2 (.int .u8 src)
  replace HB := HB.other nB3 2 (.int .u8 src)
  replace HG := HG.setCell (p := ⟨b3, 2, none⟩) gw3 (.int .u8 src)
  clear x0 x1 x2 x3 x4 z3 HZ2
  generalize w7.setCell ⟨b3, 2, none⟩ (.int .u8 src) = w8 at HX HY HZ HB HG ⊢
  obtain ⟨c0, c1, c2, c3, c4⟩ := HB.cells
  obtain ⟨x0, x1, x2, x3, x4⟩ := HX.cells
  obtain ⟨y0, y1, y2, y3, y4⟩ := HY.cells
  obtain ⟨z0, z1, z2, z3, z4⟩ := HZ.cells
  go_upto_region 18 with (first | (go_at_call_of 13 (Value.int IntKind.i16 off); refine (gr_below (kind_any _ _ _ _ _ h0 h1 d0 d1 s0 s1 _)).mono ?_; rintro r w9 ⟨rfl, hb⟩; replace HG := HG.trans (hb.mono HG.size); replace HB := HB.below hb; replace HX := HX.below hb; replace HY := HY.below hb; replace HZ := HZ.below hb; clear hb; obtain ⟨c0, c1, c2, c3, c4⟩ := HB.cells; obtain ⟨x0, x1, x2, x3, x4⟩ := HX.cells; obtain ⟨y0, y1, y2, y3, y4⟩ := HY.cells; obtain ⟨z0, z1, z2, z3, z4⟩ := HZ.cells) | (go_at_call_of 13 (Value.int IntKind.i32 imm); refine (gr_below (kind_any _ _ _ _ _ h0 h1 d0 d1 s0 s1 _)).mono ?_; rintro r w9 ⟨rfl, hb⟩; replace HG := HG.trans (hb.mono HG.size); replace HB := HB.below hb; replace HX := HX.below hb; replace HY := HY.below hb; replace HZ := HZ.below hb; clear hb; obtain ⟨c0, c1, c2, c3, c4⟩ := HB.cells; obtain ⟨x0, x1, x2, x3, x4⟩ := HX.cells; obtain ⟨y0, y1, y2, y3, y4⟩ := HY.cells; obtain ⟨z0, z1, z2, z3, z4⟩ := HZ.cells) | (go_at_call_of 13 (Value.int IntKind.u8 src); refine (gr_below (kind_any _ _ _ _ _ h0 h1 d0 d1 r0 r1 _)).mono ?_; rintro r w9 ⟨rfl, hb⟩; replace HG := HG.trans (hb.mono HG.size); replace HB := HB.below hb; replace HX := HX.below hb; replace HY := HY.below hb; replace HZ := HZ.below hb; clear hb; obtain ⟨c0, c1, c2, c3, c4⟩ := HB.cells; obtain ⟨x0, x1, x2, x3, x4⟩ := HX.cells; obtain ⟨y0, y1, y2, y3, y4⟩ := HY.cells; obtain ⟨z0, z1, z2, z3, z4⟩ := HZ.cells) | (go_at_call 15; refine (gr_below (ex_gr (code_any _ _ _ _ _ h0 h1 _))).mono ?_; rintro r w9 ⟨rfl, hb⟩; replace HG := HG.trans (hb.mono HG.size); replace HB := HB.below hb; replace HX := HX.below hb; replace HY := HY.below hb; replace HZ := HZ.below hb; clear hb; obtain ⟨c0, c1, c2, c3, c4⟩ := HB.cells; obtain ⟨x0, x1, x2, x3, x4⟩ := HX.cells; obtain ⟨y0, y1, y2, y3, y4⟩ := HY.cells; obtain ⟨z0, z1, z2, z3, z4⟩ := HZ.cells) | (go_at_call 8; refine (alive_any _).mono ?_; rintro r w9 ⟨rfl, hb⟩; replace HG := HG.trans (hb.mono HG.size); replace HB := HB.below hb; replace HX := HX.below hb; replace HY := HY.below hb; replace HZ := HZ.below hb; clear hb; obtain ⟨c0, c1, c2, c3, c4⟩ := HB.cells; obtain ⟨x0, x1, x2, x3, x4⟩ := HX.cells; obtain ⟨y0, y1, y2, y3, y4⟩ := HY.cells; obtain ⟨z0, z1, z2, z3, z4⟩ := HZ.cells))
  have hne : Nonempty (GbBy w9) := ⟨⟨w9, Below.refl _ _⟩⟩
  have pb0 := fun p => (HB.allb p).1
  have pb1 := fun p => (HB.allb p).2.1
  have pb2 := fun p => (HB.allb p).2.2.1
  have pb3 := fun p => (HB.allb p).2.2.2.1
  have pb4 := fun p => (HB.allb p).2.2.2.2
  have pz0 := fun p => (HZ.allb p).1
  have pz1 := fun p => (HZ.allb p).2.1
  have pz2 := fun p => (HZ.allb p).2.2.1
  have pz3 := fun p => (HZ.allb p).2.2.2.1
  have pz4 := fun p => (HZ.allb p).2.2.2.2
  refine wp_region_gb (by kernel_rfl) (by kernel_rfl) ?_
  repeat (first
    | go_big_quiet_skip
    | (go_big_quiet_want; go_big_quiet_op; first
      | go_big_quiet_on
      | (apply Exists.intro
         refine ⟨fun p => ?_, ?_⟩
         · first
           | (go_at_call 13; exact calls_gb (gr_below (kind_any _ _ _ _ _ h0 h1 d0 d1 r0 r1 _)))
           | (go_at_call 8; exact calls_gb (alive_any _))
         go_big_quiet_on)))
  refine wpQuiet_nil ?_
  intro _ hw'
  obtain ⟨⟨wq, hq⟩, rfl⟩ := hw'
  go_wp2
  go_returns
  rw [← hBs]
  exact ⟨rfl, HG.trans (hq.mono HG.size)⟩
end Go.Proofs.Ythbmgfnifolcbaa
