/- GraphApart: two places make no difference to each other, as long as they have other handles, for any script: the statement as given. No condition. -/
import Derived.Test.YthgpbbpmfpfjnaaGV
import Derived.Deep.CutBlock
import Derived.WalkKit
import Derived.ProofKit
import Derived.OpenShut
import Derived.ShutString
namespace Go.Proofs.Ythgpbbpmfpfjnaa.graphApart
open Go.ChangeShapes Go.WideShapes Go.ChangeAt Go.RowKit
open Go.ChangeMaps (open_string shut_string)
set_option linter.unusedVariables false
set_option linter.unusedSimpArgs false

theorem own : ownKnob Try.prog.godebug = none := by kernel_rfl

set_option maxRecDepth 100000 in
set_option maxHeartbeats 16000000 in
theorem walk (p0 : Option Addr) (L0 : List St) (c0 : Nat) (w : World) (hL0 : Sts w p0 L0) :
    Calls Try.prog 6 #[.slice p0 L0.length c0] w fun e w' => e = .returned (.bool true) ∧ Below w.heap.size w w' := by
  have kw := fun W => works_any W
  by_cases hlong : 200 < L0.length
  · have d : decide ((200 : Int) < (L0.length : Int)) = true := by simp; omega
    go_enter Try.func6, Try.ntmps6
    go_wp2_with (go_at_call 7; refine (kw _).mono ?_; rintro e w3 ⟨rfl, hb⟩)
    all_goals go_returns
    exact ⟨rfl, hb⟩
  have d1 : decide ((200 : Int) < (L0.length : Int)) = false := by simp; omega
  go_enter Try.func6, Try.ntmps6
  go_upto_region 4 with fail
  have y3 := heap_al (heap_alloc_new w (.cells #[.int .i64 1, .int .i64 0, .int .i64 0] 28)) (.cells #[.int .i64 2, .int .i64 0, .int .i64 0] 28)
  have y4 := heap_alloc_new (w.alloc (.cells #[.int .i64 1, .int .i64 0, .int .i64 0] 28)) (.cells #[.int .i64 2, .int .i64 0, .int .i64 0] 28)
  rw [World.size_alloc] at y4
  have hbw2 : Below w.heap.size w ((w.alloc (.cells #[.int .i64 1, .int .i64 0, .int .i64 0] 28)).alloc (.cells #[.int .i64 2, .int .i64 0, .int .i64 0] 28)) := ((Below.refl _ w).alloc (Nat.le_refl _) _).alloc (by simp) _
  generalize (w.alloc (.cells #[.int .i64 1, .int .i64 0, .int .i64 0] 28)).alloc (.cells #[.int .i64 2, .int .i64 0, .int .i64 0] 28) = w2 at y3 y4 hbw2 ⊢
  have k1 := gnew_any w2
  have k2 := fun W => gnew_any W
  go_upto_region 5 with (first
    | (go_at_call 8; refine (k3 _).mono ?_; rintro e w4 ⟨a, C, rfl, h2, hb2⟩)
    | (go_at_call 8; go_loud (refine k1.mono ?_; rintro e w3 ⟨g, A, rfl, h1, hb1⟩; have k3 := k2)))
  have hM0 : Ap w4 w2.heap.size g a 0 none none A C := ⟨two_none ▸ h1.bel hb2, one_none ▸ h2.base hb1.size, fun k hk hc => by have := (h1.lt k hk).2; have := (h2.lt k hc).1; omega, (fun y e => by cases e), (fun y e => by cases e)⟩
  have hb0 : Below w2.heap.size w2 w4 := hb1.trans (hb2.mono hb1.size)
  clear k1 k2 k3 h1 h2 hb1 hb2
  have hz4 := heap_lt y4
  have hwz2 := hbw2.size
  generalize hB0 : w2.heap.size = B at hM0 hb0 hz4 hwz2 ⊢
  replace hB0 : Hid _ := hB0
  replace hL0 : Hid _ := hL0
  generalize hwz : w.heap.size = wz at y3 y4 hz4 hbw2 hwz2 ⊢
  replace hwz : Hid _ := hwz
  go_wp2
  go_loopw [7] (fun n7 wr => ∃ (i N : Nat) (o o2 : At1) (A C : Nat → Prop), n7 = .int .i64 i ∧ i ≤ L0.length ∧ N ≤ i ∧ Ap wr B g a N o o2 A C ∧ Below B w2 wr) (fun n7 _ => L0.length - (valOf n7).toNat)
  case atStart => exact ⟨0, 0, none, none, A, C, rfl, by omega, by simp, hM0, hb0⟩
  case round =>
    clear hM0 hb0
    obtain ⟨i, N, o, o2, A, C, rfl, hi, hNi, hM, hbl⟩ := hrel
    by_cases hin : i < L0.length
    · have d : decide ((i : Int) < L0.length) = true := by simp; omega
      have e9 : IntKind.i64.wrap ((i : Int) + 1) = (i : Int) + 1 := IntWalk.i64_in _ (by omega)
      obtain ⟨xb, xo, ⟨xd, xi, xn, xp, xk, xq⟩, hxi, hsx, hxb, hxw, hai⟩ := idxS hL0.out hin
      have hbs := hbl.size
      have hbww : Below w.heap.size w wr := by rw [hwz.out]; exact hbw2.trans (hbl.mono hwz2)
      obtain ⟨r0, r1, r2, r3, r4, r5, r6, r7, r8⟩ := hsx.below hxb hbww
      simp only at r0 r1 r2 r3 r4 r5 r6 r7 r8
      have hai' := hai c0
      clear hai hxi hsx
      have hBl : B ≤ wr.heap.size := hM.g1.size
      go_upto_region 9 with fail
      have yz := heap_alloc_new wr (.cells #[.int .i64 xd, .int .i64 xi, .int .i64 xn, .int .i64 xp.1, .int .i64 xp.2.1, .int .i64 xp.2.2, .int .i64 xk.1, .int .u64 xk.2, .bool xq] 33)
      have hMz := hM.bel ((Below.refl _ wr).alloc (Nat.le_refl _) (.cells #[.int .i64 xd, .int .i64 xi, .int .i64 xn, .int .i64 xp.1, .int .i64 xp.2.1, .int .i64 xp.2.2, .int .i64 xk.1, .int .u64 xk.2, .bool xq] 33))
      have hbZ : Below B w2 (wr.alloc (.cells #[.int .i64 xd, .int .i64 xi, .int .i64 xn, .int .i64 xp.1, .int .i64 xp.2.1, .int .i64 xp.2.2, .int .i64 xk.1, .int .u64 xk.2, .bool xq] 33)) := hbl.alloc hBl _
      have hza : ¬ A wr.heap.size := fun q => by have := (hM.g1.lt _ q).2; omega
      have hzc : ¬ C wr.heap.size := fun q => by have := (hM.g2.lt _ q).2; omega
      have hzB : B ≤ wr.heap.size := hBl
      clear r0 r1 r2 r3 r4 r5 r6 r7 r8 hai' hM hbl hbs hbww
      generalize wr.alloc (.cells #[.int .i64 xd, .int .i64 xi, .int .i64 xn, .int .i64 xp.1, .int .i64 xp.2.1, .int .i64 xp.2.2, .int .i64 xk.1, .int .u64 xk.2, .bool xq] 33) = W at yz hMz hbZ ⊢
      generalize wr.heap.size = z at yz hza hzc hzB ⊢
      obtain ⟨nn, hnn, hand⟩ := and31 xk.1
      have e8 : IntKind.u8.wrap (nn : Int) = nn := IntWalk.u8_in _ (by omega)
      have z3 := (cell_of yz 3).trans (show _ = some (Value.int .i64 xp.1) from rfl)
      have z6 := (cell_of yz 6).trans (show _ = some (Value.int .i64 xk.1) from rfl)
      have k1 := one_any nn (by omega) W
      cases hm : (xp.1.tmod 2 == 0)
      · go_upto_region 11 with (go_at_call 18; refine k1.mono ?_; rintro e w5 ⟨rfl, hb5⟩)
        have y8 := heap_al ((hb5.block _ (heap_lt yz)).trans yz) (.cells #[.int .i64 nn, .int .u64 1] 31)
        have y10 := heap_alloc_new w5 (.cells #[.int .i64 nn, .int .u64 1] 31)
        have hbv := hb5.alloc (hb5.size) (.cells #[.int .i64 nn, .int .u64 1] 31)
        have hM1 := hMz.bel hbv
        have hb6 : Below B w2 (w5.alloc (.cells #[.int .i64 nn, .int .u64 1] 31)) := hbZ.trans (hbv.mono hMz.g1.size)
        have n10 : ¬ A w5.heap.size ∧ ¬ C w5.heap.size := ⟨fun q => by have := ((hMz.bel hb5).g1.lt _ q).2; omega, fun q => by have := ((hMz.bel hb5).g2.lt _ q).2; omega⟩
        have b10 : B ≤ w5.heap.size := (hMz.bel hb5).g1.size
        clear k1 z3 z6 hbv hb5 hMz hbZ yz
        generalize w5.alloc (.cells #[.int .i64 nn, .int .u64 1] 31) = w6 at y8 y10 hM1 hb6 ⊢
        generalize w5.heap.size = z10 at y10 n10 b10 ⊢
        obtain ⟨p0, p1, p2⟩ := pl_cells (p := pA) ((hb6.block wz (by omega)).trans y3)
        obtain ⟨p3, p4, p5⟩ := pl_cells (p := qA) ((hb6.block (wz + 1) hz4).trans y4)
        simp only [pA, qA] at p0 p1 p2 p3 p4 p5
        go_upto_region 12 with fail
        have y8 := heap_al y8 (.cells #[.int .i64 1, .int .i64 0, .int .i64 0] 28)
        have y10 := heap_al y10 (.cells #[.int .i64 1, .int .i64 0, .int .i64 0] 28)
        have y11 := heap_alloc_new w6 (.cells #[.int .i64 1, .int .i64 0, .int .i64 0] 28)
        have hM2 := hM1.bel ((Below.refl _ w6).alloc (Nat.le_refl _) (.cells #[.int .i64 1, .int .i64 0, .int .i64 0] 28))
        have hb7 : Below B w2 (w6.alloc (.cells #[.int .i64 1, .int .i64 0, .int .i64 0] 28)) := hb6.alloc hM1.g1.size _
        have n11 : ¬ A w6.heap.size ∧ ¬ C w6.heap.size := ⟨fun q => by have := (hM1.g1.lt _ q).2; omega, fun q => by have := (hM1.g2.lt _ q).2; omega⟩
        have b11 : B ≤ w6.heap.size := hM1.g1.size
        have n1011 : z10 ≠ w6.heap.size := by have := heap_lt (show w6.heap[z10]? = _ by assumption); omega
        have nz11 : z ≠ w6.heap.size := by have := heap_lt (show w6.heap[z]? = _ by assumption); omega
        have nz10 : z ≠ z10 := by rintro e; rw [e] at y8; rw [y8] at y10; cases y10
        clear p0 p1 p2 p3 p4 p5 hM1 hb6
        generalize w6.alloc (.cells #[.int .i64 1, .int .i64 0, .int .i64 0] 28) = w7 at y8 y10 y11 hM2 hb7 ⊢
        generalize w6.heap.size = z11 at y11 n11 b11 n1011 nz11 ⊢
        obtain ⟨p3, p4, p5⟩ := pl_cells (p := qA) ((hb7.block (wz + 1) hz4).trans y4)
        simp only [qA] at p3 p4 p5
        obtain ⟨s0, s1, s2, s3, s4, s5, s6, s7⟩ := put3 y11 (.int .i64 2) (.int .i64 0) (.int .i64 0)
        have f0 := froz_of y11 0
        have f1 := froz_of y11 1
        have f2 := froz_of y11 2
        go_upto_region 14 with fail
        have u1 := heap_setCell_same w7 z11 0 _ _ (.int .i64 2) y11
        have u2 := heap_setCell_same _ z11 1 _ _ (.int .i64 0) u1
        have u3 := heap_setCell_same _ z11 2 _ _ (.int .i64 0) u2
        have sx : ∀ j : Nat, j ≠ z11 → (((w7.setCell ⟨z11, 0, none⟩ (.int .i64 2)).setCell ⟨z11, 1, none⟩ (.int .i64 0)).setCell ⟨z11, 2, none⟩ (.int .i64 0)).heap[j]? = w7.heap[j]? := fun j hj => by
          rw [Below.heap_setCell _ _ _ _ (by simpa using hj), Below.heap_setCell _ _ _ _ (by simpa using hj), Below.heap_setCell _ _ _ _ (by simpa using hj)]
        have hb8 : Below B w2 (((w7.setCell ⟨z11, 0, none⟩ (.int .i64 2)).setCell ⟨z11, 1, none⟩ (.int .i64 0)).setCell ⟨z11, 2, none⟩ (.int .i64 0)) := Below.setCell (p := (⟨z11, 2, none⟩ : Addr)) (Below.setCell (p := (⟨z11, 1, none⟩ : Addr)) (Below.setCell (p := (⟨z11, 0, none⟩ : Addr)) hb7 b11 _) b11 _) b11 _
        have hM3 : Ap (((w7.setCell ⟨z11, 0, none⟩ (.int .i64 2)).setCell ⟨z11, 1, none⟩ (.int .i64 0)).setCell ⟨z11, 2, none⟩ (.int .i64 0)) B g a N o o2 A C := ⟨hM2.g1.keep fun k hk => sx k (by rintro rfl; exact n11.1 hk), hM2.g2.keep fun k hk => sx k (by rintro rfl; exact n11.2 hk), hM2.dj, hM2.h1, hM2.h2⟩
        have y8 := (sx z nz11).trans y8
        have y10 := (sx z10 n1011).trans y10
        replace y11 : _ = some (Obj.cells #[.int .i64 2, .int .i64 0, .int .i64 0] 28 (0, 0)) := u3
        clear s0 s1 s2 s3 s4 s5 s6 s7 f0 f1 f2 p3 p4 p5 u1 u2 u3 sx hM2 hb7
        generalize ((w7.setCell ⟨z11, 0, none⟩ (.int .i64 2)).setCell ⟨z11, 1, none⟩ (.int .i64 0)).setCell ⟨z11, 2, none⟩ (.int .i64 0) = w8 at y8 y10 y11 hb8 hM3 ⊢
        have v0 := cell_of y10 0
        have v1 := cell_of y10 1
        simp at v0 v1
        obtain ⟨s0, s1, s2, s3⟩ := put2 y10 (.int .i64 nn) (.int .u64 2)
        have f0 := froz_of y10 0
        have f1 := froz_of y10 1
        go_upto_region 15 with fail
        have u1 := heap_setCell_same w8 z10 0 _ _ (.int .i64 nn) y10
        have u2 := heap_setCell_same _ z10 1 _ _ (.int .u64 2) u1
        have sx : ∀ j : Nat, j ≠ z10 → ((w8.setCell ⟨z10, 0, none⟩ (.int .i64 nn)).setCell ⟨z10, 1, none⟩ (.int .u64 2)).heap[j]? = w8.heap[j]? := fun j hj => by
          rw [Below.heap_setCell _ _ _ _ (by simpa using hj), Below.heap_setCell _ _ _ _ (by simpa using hj)]
        have hb7 : Below B w2 ((w8.setCell ⟨z10, 0, none⟩ (.int .i64 nn)).setCell ⟨z10, 1, none⟩ (.int .u64 2)) := Below.setCell (p := (⟨z10, 1, none⟩ : Addr)) (Below.setCell (p := (⟨z10, 0, none⟩ : Addr)) hb8 b10 _) b10 _
        have hM2 : Ap ((w8.setCell ⟨z10, 0, none⟩ (.int .i64 nn)).setCell ⟨z10, 1, none⟩ (.int .u64 2)) B g a N o o2 A C := ⟨hM3.g1.keep fun k hk => sx k (by rintro rfl; exact n10.1 hk), hM3.g2.keep fun k hk => sx k (by rintro rfl; exact n10.2 hk), hM3.dj, hM3.h1, hM3.h2⟩
        have y8 := (sx z nz10).trans y8
        have y11 := (sx z11 (Ne.symm n1011)).trans y11
        replace y10 : _ = some (Obj.cells #[.int .i64 nn, .int .u64 2] 31 (0, 0)) := u2
        clear s0 s1 s2 s3 f0 f1 v0 v1 u1 u2 sx hM3 hb8
        generalize (w8.setCell ⟨z10, 0, none⟩ (.int .i64 nn)).setCell ⟨z10, 1, none⟩ (.int .u64 2) = w9 at y8 y10 y11 hb7 hM2 ⊢
        have z0 := (cell_of y8 0).trans (show _ = some (Value.int .i64 xd) from rfl)
        go_upto_block 2 with fail
        clear z0
        have hza := And.intro hza hzc
        go_cut [] (fun wx => ∃ (N' : Nat) (o' o2' : At1) (A' C' : Nat → Prop), N' ≤ i + 1 ∧ Ap wx B g a N' o' o2' A' C' ∧ Below B w2 wx)
        case first =>
          have t1 := (cell_of y8 1).trans (show _ = some (Value.int .i64 xi) from rfl)
          have t8 := (cell_of y8 8).trans (show _ = some (Value.bool xq) from rfl)
          obtain ⟨h0', h1'⟩ := hd_cells (k := ((nn : Int), 2)) y10
          obtain ⟨p0, p1, p2⟩ := pl_cells (p := qA) y11
          simp only [qA] at h0' h1' p0 p1 p2
          generalize hWW : w9 = WW at y8 y10 y11 hM2 hb7 t1 t8 h0' h1' p0 p1 p2 ⊢
          clear hWW
          by_cases hd0 : xd = 0
          · subst hd0
            have ka := gpush_any WW B g N (two o o2) A hM2.g1 (by omega) qA (((nn : Int), 2), 8) xq
            rw [push_loc (there_q hM2.h1 rfl), two_q, two_uq] at ka
            have hG := gen_push hM2.h2 (f := (((nn : Int), 2), 8)) rfl xq
            generalize pushO o2 (((nn : Int), 2), 8) xq = R at ka hG
            obtain ⟨r, o'⟩ := R
            simp only [pK, P.hK, hK2, pA, qA] at ka hG
            go_wp2_with (go_at_call 9; go_loud (refine ka.mono ?_; rintro e v1 ⟨rfl, A', ha', fa⟩))
            all_goals go_meet
            all_goals exact ⟨N + 1, o, _, A', C, by omega, hM2.other (by omega) ha' fa hG, hb7.trans fa.bel⟩
          by_cases hd2 : xd = 2
          · subst hd2
            have ka := gins_any WW B g N (two o o2) A hM2.g1 (by omega) qA xi (((nn : Int), 2), 8)
            rw [ins_loc (there_q hM2.h1 rfl), two_q, two_uq] at ka
            have hG := gen_ins hM2.h2 (f := (((nn : Int), 2), 8)) rfl xi
            generalize insO o2 xi (((nn : Int), 2), 8) = R at ka hG
            obtain ⟨r, o'⟩ := R
            simp only [pK, P.hK, hK2, pA, qA] at ka hG
            go_wp2_with (go_at_call 10; go_loud (refine ka.mono ?_; rintro e v1 ⟨rfl, A', ha', fa⟩))
            all_goals go_meet
            all_goals exact ⟨N + 1, o, _, A', C, by omega, hM2.other (by omega) ha' fa hG, hb7.trans fa.bel⟩
          by_cases hd1 : xd = 1
          · subst hd1
            have ka := gpop_any WW B g N (two o o2) A hM2.g1 qA xq
            rw [peek_loc, pop_loc, two_q, two_uq] at ka
            have hG := gen_pop hM2.h2 xq
            generalize popO o2 xq = o' at ka hG
            generalize (peekO o2 xq).isSome = bs at ka 
            generalize (peekO o2 xq).map Prod.fst = pk at ka 
            rw [oV_eq] at ka
            simp only [pK, P.hK, hK2, pA, qA] at ka
            go_wp2_with (go_at_call 11; go_loud (refine ka.mono ?_; rintro e v1 ⟨rfl, A', ha', fa⟩))
            all_goals go_meet
            all_goals exact ⟨N, o, _, A', C, by omega, hM2.other (Nat.le_refl N) (ha'.alloc' _) (fa.trans (FG.of ((Below.refl _ v1).alloc (Nat.le_refl _) _) ha'.size)) hG, hb7.trans (fa.trans (FG.of ((Below.refl _ v1).alloc (Nat.le_refl _) _) ha'.size)).bel⟩
          by_cases hd3 : xd = 3
          · subst hd3
            have ka := grem_any WW B g N (two o o2) A hM2.g1 qA (((nn : Int), 2), 8)
            rw [rem_loc, two_q, two_uq] at ka
            have hG := gen_rem hM2.h2 (((nn : Int), 2), 8)
            generalize remO o2 (((nn : Int), 2), 8) = R at ka hG
            obtain ⟨r, o'⟩ := R
            simp only [pK, P.hK, hK2, pA, qA] at ka hG
            go_wp2_with (go_at_call 12; go_loud (refine ka.mono ?_; rintro e v1 ⟨rfl, A', ha', fa⟩))
            all_goals go_meet
            all_goals exact ⟨N, o, _, A', C, by omega, hM2.other (by omega) ha' fa hG, hb7.trans fa.bel⟩
          have b0 : (xd == 0) = false := beq_false_of_ne hd0
          have b1 : (xd == 1) = false := beq_false_of_ne hd1
          have b2 : (xd == 2) = false := beq_false_of_ne hd2
          have b3 : (xd == 3) = false := beq_false_of_ne hd3
          go_wp2
          all_goals go_meet
          all_goals exact ⟨N, o, o2, A, C, by omega, hM2, hb7⟩
        case rest =>
          obtain ⟨N', o', o2', A', C', hN', hM', hb'⟩ := hcut
          clear hM2 hb7 y8 y10 y11 n10 n11 hza
          have yp := (hb'.block wz (by omega)).trans y3
          have hl := hM'.g2.len pA
          have kL1 := fun p : BlBy wc => gi_len p.wo B g N' _ _ (hM'.g1.bel p.bl) pA
          have kL2 := fun p : BlBy wc => gi_len p.wo B a N' _ _ (hM'.g2.bel p.bl) pA
          have kK1 := fun p : BlBy wc => gi_kind p.wo B g N' _ _ (hM'.g1.bel p.bl) pA
          have kK2 := fun p : BlBy wc => gi_kind p.wo B a N' _ _ (hM'.g2.bel p.bl) pA
          simp only [lenO_eq, kindO_eq] at kL1 kK1
          generalize hll : lenY (one1Y o') pA = l at kL1 kL2 hl
          generalize kindY (one1Y o') pA = kd at kK1 kK2
          simp only [pK, P.hK, pA] at kL1 kL2 kK1 kK2
          have dl : ((l : Int) == (l : Int)) = true := by simp
          have dk : (kd == kd) = true := by simp
          have x0 := fun p : BlBy wc => (p.bl.cell (p := ⟨wz, 0, none⟩) (heap_lt yp)).trans (by rw [cell_of yp]; rfl : wc.cell? ⟨wz, 0, none⟩ = some (.int .i64 1))
          have x1 := fun p : BlBy wc => (p.bl.cell (p := ⟨wz, 1, none⟩) (heap_lt yp)).trans (by rw [cell_of yp]; rfl : wc.cell? ⟨wz, 1, none⟩ = some (.int .i64 0))
          have x2 := fun p : BlBy wc => (p.bl.cell (p := ⟨wz, 2, none⟩) (heap_lt yp)).trans (by rw [cell_of yp]; rfl : wc.cell? ⟨wz, 2, none⟩ = some (.int .i64 0))
          go_upto_region 34 with fail
          have hne : Nonempty (BlBy wc) := ⟨⟨wc, Below.refl _ wc⟩⟩
          refine wp_region_bl (by kernel_rfl) (by kernel_rfl) ?_
          repeat (first
            | go_big_quiet_skip
            | (go_big_quiet_want; go_big_quiet_op; first
              | go_big_quiet_on
              | (apply Exists.intro
                 refine ⟨fun p => ?_, ?_⟩
                 · first
                     | (go_at_call_of 15 (Value.pointer (some ⟨g, 0, none⟩)); exact calls_bl (kL1 p))
                     | (go_at_call_of 15 (Value.pointer (some ⟨a, 0, none⟩)); exact calls_bl (kL2 p))
                     | (go_at_call_of 19 (Value.pointer (some ⟨g, 0, none⟩)); exact calls_bl (kK1 p))
                     | (go_at_call_of 19 (Value.pointer (some ⟨a, 0, none⟩)); exact calls_bl (kK2 p))
                 go_big_quiet_on)))
          refine wpQuiet_nil ?_
          intro wq hw'
          obtain ⟨⟨wq2, hq⟩, e⟩ := hw'
          try simp only at e
          subst e
          clear kL1 kL2 kK1 kK2 x0 x1 x2 hne dl dk
          have hM3 := hM'.bel hq
          have hb3 := hb'.trans (hq.mono hM'.g1.size)
          try simp only at hM3 hb3
          clear hM' hb' yp
          go_wp2
          go_loopw [19] (fun n19 wx => ∃ k : Nat, n19 = .int .i64 k ∧ k ≤ l ∧ Ap wx B g a N' o' o2' A' C' ∧ Below B w2 wx) (fun n19 _ => l - (valOf n19).toNat)
          case atStart => exact ⟨0, rfl, by omega, hM3, hb3⟩
          case round =>
          
            clear hM3 hb3
            obtain ⟨k, rfl, hk, hM4, hb4⟩ := hrel
            have yp := (hb4.block wz (by omega)).trans y3
            obtain ⟨p0, p1, p2⟩ := pl_cells (p := pA) yp
            simp only [pA] at p0 p1 p2
            have kL := gi_len wr B a N' _ _ hM4.g2 pA
            rw [hll] at kL
            simp only [pK, P.hK, pA] at kL
            by_cases hkl : k < l
            · have dl : decide ((k : Int) < l) = true := by simpa using hkl
              have e10 : IntKind.i64.wrap ((k : Int) + 1) = (k : Int) + 1 := IntWalk.i64_in _ (by omega)
              go_upto_region 39 with (go_at_call 15; go_loud (refine kL.mono ?_; rintro e v1 ⟨rfl, hv1⟩))
              have hM5 := hM4.bel hv1
              have hb5 := hb4.trans (hv1.mono hM4.g1.size)
              have kA := gi_at v1 B g N' _ _ hM5.g1 pA (by omega) k
              rw [atO_eq] at kA
              have kB := fun (W : World) (h : Gi W B a N' (one1Y o') C') => gi_at W B a N' _ _ h pA (by omega) k
              generalize (atY (one1Y o') pA k).isSome = bs at kA kB
              generalize (atY (one1Y o') pA k).map Prod.fst = pk at kA kB
              simp only [oV_eq, pK, P.hK, pA] at kA kB
              have yp := (hv1.block _ (heap_lt yp)).trans yp
              obtain ⟨p0, p1, p2⟩ := pl_cells (p := pA) yp
              simp only [pA] at p0 p1 p2
              clear kL hM4 hb4 hv1
              go_upto_region 40 with (go_at_call 16; go_loud (refine kA.mono ?_; rintro e v2 ⟨rfl, hv2⟩))
              have hv3 := hv2.alloc hv2.size (.cells #[.int .i64 (o1 pk), .int .u64 (Go.Proofs.Ythgpbbpmfpfjnaa.o2 pk)] 31)
              have hM6 := hM5.bel hv3
              have hb6 := hb5.trans (hv3.mono hM5.g1.size)
              have ya := heap_alloc_new v2 (.cells #[.int .i64 (o1 pk), .int .u64 (Go.Proofs.Ythgpbbpmfpfjnaa.o2 pk)] 31)
              have yp := (hv3.block _ (heap_lt yp)).trans yp
              clear kA hM5 hb5 hv2 hv3
              generalize v2.alloc (.cells #[.int .i64 (o1 pk), .int .u64 (Go.Proofs.Ythgpbbpmfpfjnaa.o2 pk)] 31) = v3 at hM6 hb6 ya yp ⊢
              generalize v2.heap.size = za at ya ⊢
              obtain ⟨p0, p1, p2⟩ := pl_cells (p := pA) yp
              simp only [pA] at p0 p1 p2
              have kB := kB v3 hM6.g2
              go_upto_region 41 with (go_at_call 16; go_loud (refine kB.mono ?_; rintro e v4 ⟨rfl, hv4⟩))
              have hv5 := hv4.alloc hv4.size (.cells #[.int .i64 (o1 pk), .int .u64 (Go.Proofs.Ythgpbbpmfpfjnaa.o2 pk)] 31)
              have hM7 := hM6.bel hv5
              have hb7 := hb6.trans (hv5.mono hM6.g1.size)
              have yb := heap_alloc_new v4 (.cells #[.int .i64 (o1 pk), .int .u64 (Go.Proofs.Ythgpbbpmfpfjnaa.o2 pk)] 31)
              have ya := (hv5.block _ (heap_lt ya)).trans ya
              clear kB hM6 hb6 hv4 hv5 p0 p1 p2
              generalize v4.alloc (.cells #[.int .i64 (o1 pk), .int .u64 (Go.Proofs.Ythgpbbpmfpfjnaa.o2 pk)] 31) = v5 at hM7 hb7 ya yb ⊢
              generalize v4.heap.size = zb at yb ⊢
              obtain ⟨a0, a1⟩ := hd_cells (k := (o1 pk, Go.Proofs.Ythgpbbpmfpfjnaa.o2 pk)) ya
              obtain ⟨b0, b1⟩ := hd_cells (k := (o1 pk, Go.Proofs.Ythgpbbpmfpfjnaa.o2 pk)) yb
              simp only at a0 a1 b0 b1
              have nq := fun W => neqH (o1 pk) (o1 pk) (Go.Proofs.Ythgpbbpmfpfjnaa.o2 pk) (Go.Proofs.Ythgpbbpmfpfjnaa.o2 pk) W
              simp only [beq_self_eq_true, Bool.and_self, Bool.not_true] at nq
              clear hll yp hl
              go_upto_region 38 with fail
              clear nq a0 a1 b0 b1 ya yb
              go_wp2
              refine ⟨⟨k + 1, ?_, ?_, hM7, hb7⟩, ?_⟩
              · simp
              · omega
              · simp only [valOf]; omega
            · have dl : decide ((k : Int) < l) = false := by simp; omega
              go_wp2_with (go_at_call 15; go_loud (refine kL.mono ?_; rintro e v1 ⟨rfl, hv1⟩))
              exact ⟨⟨i + 1, N', o', o2', A', C', by simp, by omega, by omega, hM4.bel hv1, hb4.trans (hv1.mono hM4.g1.size)⟩, by simp [valOf]; omega⟩
      · go_upto_region 11 with (go_at_call 18; refine k1.mono ?_; rintro e w5 ⟨rfl, hb5⟩)
        have y8 := heap_al ((hb5.block _ (heap_lt yz)).trans yz) (.cells #[.int .i64 nn, .int .u64 1] 31)
        have y10 := heap_alloc_new w5 (.cells #[.int .i64 nn, .int .u64 1] 31)
        have hbv := hb5.alloc (hb5.size) (.cells #[.int .i64 nn, .int .u64 1] 31)
        have hM1 := hMz.bel hbv
        have hb6 : Below B w2 (w5.alloc (.cells #[.int .i64 nn, .int .u64 1] 31)) := hbZ.trans (hbv.mono hMz.g1.size)
        have n10 : ¬ A w5.heap.size ∧ ¬ C w5.heap.size := ⟨fun q => by have := ((hMz.bel hb5).g1.lt _ q).2; omega, fun q => by have := ((hMz.bel hb5).g2.lt _ q).2; omega⟩
        have b10 : B ≤ w5.heap.size := (hMz.bel hb5).g1.size
        clear k1 z3 z6 hbv hb5 hMz hbZ yz
        generalize w5.alloc (.cells #[.int .i64 nn, .int .u64 1] 31) = w6 at y8 y10 hM1 hb6 ⊢
        generalize w5.heap.size = z10 at y10 n10 b10 ⊢
        obtain ⟨p0, p1, p2⟩ := pl_cells (p := pA) ((hb6.block wz (by omega)).trans y3)
        obtain ⟨p3, p4, p5⟩ := pl_cells (p := qA) ((hb6.block (wz + 1) hz4).trans y4)
        simp only [pA, qA] at p0 p1 p2 p3 p4 p5
        go_upto_region 12 with fail
        have y8 := heap_al y8 (.cells #[.int .i64 1, .int .i64 0, .int .i64 0] 28)
        have y10 := heap_al y10 (.cells #[.int .i64 1, .int .i64 0, .int .i64 0] 28)
        have y11 := heap_alloc_new w6 (.cells #[.int .i64 1, .int .i64 0, .int .i64 0] 28)
        have hM2 := hM1.bel ((Below.refl _ w6).alloc (Nat.le_refl _) (.cells #[.int .i64 1, .int .i64 0, .int .i64 0] 28))
        have hb7 : Below B w2 (w6.alloc (.cells #[.int .i64 1, .int .i64 0, .int .i64 0] 28)) := hb6.alloc hM1.g1.size _
        have n11 : ¬ A w6.heap.size ∧ ¬ C w6.heap.size := ⟨fun q => by have := (hM1.g1.lt _ q).2; omega, fun q => by have := (hM1.g2.lt _ q).2; omega⟩
        have b11 : B ≤ w6.heap.size := hM1.g1.size
        have n1011 : z10 ≠ w6.heap.size := by have := heap_lt (show w6.heap[z10]? = _ by assumption); omega
        have nz11 : z ≠ w6.heap.size := by have := heap_lt (show w6.heap[z]? = _ by assumption); omega
        have nz10 : z ≠ z10 := by rintro e; rw [e] at y8; rw [y8] at y10; cases y10
        clear p0 p1 p2 p3 p4 p5 hM1 hb6
        generalize w6.alloc (.cells #[.int .i64 1, .int .i64 0, .int .i64 0] 28) = w7 at y8 y10 y11 hM2 hb7 ⊢
        generalize w6.heap.size = z11 at y11 n11 b11 n1011 nz11 ⊢
        go_upto_region 15 with fail
        have z0 := (cell_of y8 0).trans (show _ = some (Value.int .i64 xd) from rfl)
        go_upto_block 2 with fail
        clear z0
        have hza := And.intro hza hzc
        go_cut [] (fun wx => ∃ (N' : Nat) (o' o2' : At1) (A' C' : Nat → Prop), N' ≤ i + 1 ∧ Ap wx B g a N' o' o2' A' C' ∧ Below B w2 wx)
        case first =>
          have t1 := (cell_of y8 1).trans (show _ = some (Value.int .i64 xi) from rfl)
          have t8 := (cell_of y8 8).trans (show _ = some (Value.bool xq) from rfl)
          obtain ⟨h0', h1'⟩ := hd_cells (k := ((nn : Int), 1)) y10
          obtain ⟨p0, p1, p2⟩ := pl_cells (p := pA) y11
          simp only [pA] at h0' h1' p0 p1 p2
          generalize hWW : w7 = WW at y8 y10 y11 hM2 hb7 t1 t8 h0' h1' p0 p1 p2 ⊢
          clear hWW
          by_cases hd0 : xd = 0
          · subst hd0
            have ka := gpush_any WW B g N (two o o2) A hM2.g1 (by omega) pA (((nn : Int), 1), 8) xq
            rw [push_loc (there_p hM2.h2 rfl), two_p, two_up] at ka
            have hG := gen_push hM2.h1 (f := (((nn : Int), 1), 8)) rfl xq
            have kb := fun (W : World) (h : Gi W B a N (one1Y o) C) => gpush_any W B a N (one1Y o) C h (by omega) pA (((nn : Int), 1), 8) xq
            simp only [push_loc there_one, one_p, one_up] at kb
            generalize pushO o (((nn : Int), 1), 8) xq = R at ka kb hG
            obtain ⟨r, o'⟩ := R
            simp only [pK, P.hK, hK2, pA, qA] at ka kb hG
            have dd : (r == r) = true := by simp
            go_wp2_with (first
              | (go_at_call 9; (refine kB.mono ?_; rintro e v2 ⟨rfl, C', hb', fb⟩))
              | (go_at_call 9; go_loud (refine ka.mono ?_; rintro e v1 ⟨rfl, A', ha', fa⟩; have y8' := fa.box y8 hza.1; have y10' := fa.box y10 n10.1; have y11' := fa.box y11 n11.1; have t1 := (cell_of y8' 1).trans (show _ = some (Value.int .i64 xi) from rfl); have t8 := (cell_of y8' 8).trans (show _ = some (Value.bool xq) from rfl); obtain ⟨h0', h1'⟩ := hd_cells (k := ((nn : Int), 1)) y10'; obtain ⟨p0, p1, p2⟩ := pl_cells (p := pA) y11'; simp only [pA] at h0' h1' p0 p1 p2; have hC1 : Gi v1 B a N (one1Y o) C := hM2.g2.keep fun k hk => fa.keep k (hM2.g2.lt k hk).2 (fun q => hM2.dj k q hk); have kB := kb v1 hC1)))
            all_goals go_meet
            all_goals exact ⟨N + 1, _, o2, A', C', by omega, hM2.both ha' fa hb' fb hG, (hb7.trans fa.bel).trans fb.bel⟩
          by_cases hd2 : xd = 2
          · subst hd2
            have ka := gins_any WW B g N (two o o2) A hM2.g1 (by omega) pA xi (((nn : Int), 1), 8)
            rw [ins_loc (there_p hM2.h2 rfl), two_p, two_up] at ka
            have hG := gen_ins hM2.h1 (f := (((nn : Int), 1), 8)) rfl xi
            have kb := fun (W : World) (h : Gi W B a N (one1Y o) C) => gins_any W B a N (one1Y o) C h (by omega) pA xi (((nn : Int), 1), 8)
            simp only [ins_loc there_one, one_p, one_up] at kb
            generalize insO o xi (((nn : Int), 1), 8) = R at ka kb hG
            obtain ⟨r, o'⟩ := R
            simp only [pK, P.hK, hK2, pA, qA] at ka kb hG
            have dd : (r == r) = true := by simp
            go_wp2_with (first
              | (go_at_call 10; (refine kB.mono ?_; rintro e v2 ⟨rfl, C', hb', fb⟩))
              | (go_at_call 10; go_loud (refine ka.mono ?_; rintro e v1 ⟨rfl, A', ha', fa⟩; have y8' := fa.box y8 hza.1; have y10' := fa.box y10 n10.1; have y11' := fa.box y11 n11.1; have t1 := (cell_of y8' 1).trans (show _ = some (Value.int .i64 xi) from rfl); have t8 := (cell_of y8' 8).trans (show _ = some (Value.bool xq) from rfl); obtain ⟨h0', h1'⟩ := hd_cells (k := ((nn : Int), 1)) y10'; obtain ⟨p0, p1, p2⟩ := pl_cells (p := pA) y11'; simp only [pA] at h0' h1' p0 p1 p2; have hC1 : Gi v1 B a N (one1Y o) C := hM2.g2.keep fun k hk => fa.keep k (hM2.g2.lt k hk).2 (fun q => hM2.dj k q hk); have kB := kb v1 hC1)))
            all_goals go_meet
            all_goals exact ⟨N + 1, _, o2, A', C', by omega, hM2.both ha' fa hb' fb hG, (hb7.trans fa.bel).trans fb.bel⟩
          by_cases hd1 : xd = 1
          · subst hd1
            have ka := gpop_any WW B g N (two o o2) A hM2.g1 pA xq
            rw [peek_loc, pop_loc, two_p, two_up] at ka
            have hG := gen_pop hM2.h1 xq
            have kb := fun (W : World) (h : Gi W B a N (one1Y o) C) => gpop_any W B a N (one1Y o) C h pA xq
            simp only [peek_loc, pop_loc, one_p, one_up] at kb
            generalize popO o xq = o' at ka kb hG
            generalize (peekO o xq).isSome = bs at ka kb 
            generalize (peekO o xq).map Prod.fst = pk at ka kb 
            rw [oV_eq] at ka
            simp only [pK, P.hK, hK2, pA, qA] at ka
            simp only [oV_eq, pK, P.hK, hK2, pA, qA] at kb
            go_upto_region 26 with (go_at_call 11; go_loud (refine ka.mono ?_; rintro e v1 ⟨rfl, A', ha', fa⟩))
            have y8' := heap_al (fa.box y8 hza.1) (.cells #[.int .i64 (o1 pk), .int .u64 (Go.Proofs.Ythgpbbpmfpfjnaa.o2 pk)] 31)
            have y11' := heap_al (fa.box y11 n11.1) (.cells #[.int .i64 (o1 pk), .int .u64 (Go.Proofs.Ythgpbbpmfpfjnaa.o2 pk)] 31)
            have ya := heap_alloc_new v1 (.cells #[.int .i64 (o1 pk), .int .u64 (Go.Proofs.Ythgpbbpmfpfjnaa.o2 pk)] 31)
            have hC1 : Gi v1 B a N (one1Y o) C := hM2.g2.keep fun k hk => fa.keep k (hM2.g2.lt k hk).2 (fun q => hM2.dj k q hk)
            have hC2 := hC1.alloc' (.cells #[.int .i64 (o1 pk), .int .u64 (Go.Proofs.Ythgpbbpmfpfjnaa.o2 pk)] 31)
            have ha2 := ha'.alloc' (.cells #[.int .i64 (o1 pk), .int .u64 (Go.Proofs.Ythgpbbpmfpfjnaa.o2 pk)] 31)
            have fa2 : FG B A A' WW (v1.alloc (.cells #[.int .i64 (o1 pk), .int .u64 (Go.Proofs.Ythgpbbpmfpfjnaa.o2 pk)] 31)) := fa.trans (FG.of ((Below.refl _ v1).alloc (Nat.le_refl _) _) ha'.size)
            have nC : ¬ C v1.heap.size := fun q => by have := (hC1.lt _ q).2; omega
            clear ka t1 t8 h0' h1' p0 p1 p2 hC1 fa ha'
            generalize v1.alloc (.cells #[.int .i64 (o1 pk), .int .u64 (Go.Proofs.Ythgpbbpmfpfjnaa.o2 pk)] 31) = v2 at y8' y11' ya hC2 ha2 fa2 ⊢
            generalize v1.heap.size = za at ya nC ⊢
            have t8 := (cell_of y8' 8).trans (show _ = some (Value.bool xq) from rfl)
            obtain ⟨p0, p1, p2⟩ := pl_cells (p := pA) y11'
            simp only [pA] at p0 p1 p2
            have kB := kb v2 hC2
            go_upto_region 28 with (go_at_call 11; go_loud (refine kB.mono ?_; rintro e v3 ⟨rfl, C', hb', fb⟩))
            have ya3 := heap_al (fb.box ya nC) (.cells #[.int .i64 (o1 pk), .int .u64 (Go.Proofs.Ythgpbbpmfpfjnaa.o2 pk)] 31)
            have yb3 := heap_alloc_new v3 (.cells #[.int .i64 (o1 pk), .int .u64 (Go.Proofs.Ythgpbbpmfpfjnaa.o2 pk)] 31)
            have hb2 := hb'.alloc' (.cells #[.int .i64 (o1 pk), .int .u64 (Go.Proofs.Ythgpbbpmfpfjnaa.o2 pk)] 31)
            have fb2 : FG B C C' v2 (v3.alloc (.cells #[.int .i64 (o1 pk), .int .u64 (Go.Proofs.Ythgpbbpmfpfjnaa.o2 pk)] 31)) := fb.trans (FG.of ((Below.refl _ v3).alloc (Nat.le_refl _) _) hb'.size)
            clear kB t8 p0 p1 p2 fb hb'
            generalize v3.alloc (.cells #[.int .i64 (o1 pk), .int .u64 (Go.Proofs.Ythgpbbpmfpfjnaa.o2 pk)] 31) = v4 at ya3 yb3 hb2 fb2 ⊢
            generalize v3.heap.size = zb at yb3 ⊢
            obtain ⟨a0, a1⟩ := hd_cells (k := (o1 pk, Go.Proofs.Ythgpbbpmfpfjnaa.o2 pk)) ya3
            obtain ⟨b0, b1⟩ := hd_cells (k := (o1 pk, Go.Proofs.Ythgpbbpmfpfjnaa.o2 pk)) yb3
            simp only at a0 a1 b0 b1
            have nq := fun W => neqH (o1 pk) (o1 pk) (Go.Proofs.Ythgpbbpmfpfjnaa.o2 pk) (Go.Proofs.Ythgpbbpmfpfjnaa.o2 pk) W
            simp only [beq_self_eq_true, Bool.and_self, Bool.not_true] at nq
            cases bs
            all_goals
              go_wp2
              all_goals go_meet
              all_goals exact ⟨N, _, o2, A', C', by omega, hM2.both ha2 fa2 hb2 fb2 hG, (hb7.trans fa2.bel).trans fb2.bel⟩
          by_cases hd3 : xd = 3
          · subst hd3
            have ka := grem_any WW B g N (two o o2) A hM2.g1 pA (((nn : Int), 1), 8)
            rw [rem_loc, two_p, two_up] at ka
            have hG := gen_rem hM2.h1 (((nn : Int), 1), 8)
            have kb := fun (W : World) (h : Gi W B a N (one1Y o) C) => grem_any W B a N (one1Y o) C h pA (((nn : Int), 1), 8)
            simp only [rem_loc, one_p, one_up] at kb
            generalize remO o (((nn : Int), 1), 8) = R at ka kb hG
            obtain ⟨r, o'⟩ := R
            simp only [pK, P.hK, hK2, pA, qA] at ka kb hG
            cases r
            all_goals
              go_wp2_with (first
                | (go_at_call 12; (refine kB.mono ?_; rintro e v2 ⟨rfl, C', hb', fb⟩))
                | (go_at_call 12; go_loud (refine ka.mono ?_; rintro e v1 ⟨rfl, A', ha', fa⟩; have y8' := fa.box y8 hza.1; have y10' := fa.box y10 n10.1; have y11' := fa.box y11 n11.1; have t1 := (cell_of y8' 1).trans (show _ = some (Value.int .i64 xi) from rfl); have t8 := (cell_of y8' 8).trans (show _ = some (Value.bool xq) from rfl); obtain ⟨h0', h1'⟩ := hd_cells (k := ((nn : Int), 1)) y10'; obtain ⟨p0, p1, p2⟩ := pl_cells (p := pA) y11'; simp only [pA] at h0' h1' p0 p1 p2; have hC1 : Gi v1 B a N (one1Y o) C := hM2.g2.keep fun k hk => fa.keep k (hM2.g2.lt k hk).2 (fun q => hM2.dj k q hk); have kB := kb v1 hC1)))
              all_goals go_meet
              all_goals exact ⟨N, _, o2, A', C', by omega, hM2.both ha' fa hb' fb hG, (hb7.trans fa.bel).trans fb.bel⟩
          have b0 : (xd == 0) = false := beq_false_of_ne hd0
          have b1 : (xd == 1) = false := beq_false_of_ne hd1
          have b2 : (xd == 2) = false := beq_false_of_ne hd2
          have b3 : (xd == 3) = false := beq_false_of_ne hd3
          go_wp2
          all_goals go_meet
          all_goals exact ⟨N, o, o2, A, C, by omega, hM2, hb7⟩
        case rest =>
          obtain ⟨N', o', o2', A', C', hN', hM', hb'⟩ := hcut
          clear hM2 hb7 y8 y10 y11 n10 n11 hza
          have yp := (hb'.block wz (by omega)).trans y3
          have hl := hM'.g2.len pA
          have kL1 := fun p : BlBy wc => gi_len p.wo B g N' _ _ (hM'.g1.bel p.bl) pA
          have kL2 := fun p : BlBy wc => gi_len p.wo B a N' _ _ (hM'.g2.bel p.bl) pA
          have kK1 := fun p : BlBy wc => gi_kind p.wo B g N' _ _ (hM'.g1.bel p.bl) pA
          have kK2 := fun p : BlBy wc => gi_kind p.wo B a N' _ _ (hM'.g2.bel p.bl) pA
          simp only [lenO_eq, kindO_eq] at kL1 kK1
          generalize hll : lenY (one1Y o') pA = l at kL1 kL2 hl
          generalize kindY (one1Y o') pA = kd at kK1 kK2
          simp only [pK, P.hK, pA] at kL1 kL2 kK1 kK2
          have dl : ((l : Int) == (l : Int)) = true := by simp
          have dk : (kd == kd) = true := by simp
          have x0 := fun p : BlBy wc => (p.bl.cell (p := ⟨wz, 0, none⟩) (heap_lt yp)).trans (by rw [cell_of yp]; rfl : wc.cell? ⟨wz, 0, none⟩ = some (.int .i64 1))
          have x1 := fun p : BlBy wc => (p.bl.cell (p := ⟨wz, 1, none⟩) (heap_lt yp)).trans (by rw [cell_of yp]; rfl : wc.cell? ⟨wz, 1, none⟩ = some (.int .i64 0))
          have x2 := fun p : BlBy wc => (p.bl.cell (p := ⟨wz, 2, none⟩) (heap_lt yp)).trans (by rw [cell_of yp]; rfl : wc.cell? ⟨wz, 2, none⟩ = some (.int .i64 0))
          go_upto_region 34 with fail
          have hne : Nonempty (BlBy wc) := ⟨⟨wc, Below.refl _ wc⟩⟩
          refine wp_region_bl (by kernel_rfl) (by kernel_rfl) ?_
          repeat (first
            | go_big_quiet_skip
            | (go_big_quiet_want; go_big_quiet_op; first
              | go_big_quiet_on
              | (apply Exists.intro
                 refine ⟨fun p => ?_, ?_⟩
                 · first
                     | (go_at_call_of 15 (Value.pointer (some ⟨g, 0, none⟩)); exact calls_bl (kL1 p))
                     | (go_at_call_of 15 (Value.pointer (some ⟨a, 0, none⟩)); exact calls_bl (kL2 p))
                     | (go_at_call_of 19 (Value.pointer (some ⟨g, 0, none⟩)); exact calls_bl (kK1 p))
                     | (go_at_call_of 19 (Value.pointer (some ⟨a, 0, none⟩)); exact calls_bl (kK2 p))
                 go_big_quiet_on)))
          refine wpQuiet_nil ?_
          intro wq hw'
          obtain ⟨⟨wq2, hq⟩, e⟩ := hw'
          try simp only at e
          subst e
          clear kL1 kL2 kK1 kK2 x0 x1 x2 hne dl dk
          have hM3 := hM'.bel hq
          have hb3 := hb'.trans (hq.mono hM'.g1.size)
          try simp only at hM3 hb3
          clear hM' hb' yp
          go_wp2
          go_loopw [19] (fun n19 wx => ∃ k : Nat, n19 = .int .i64 k ∧ k ≤ l ∧ Ap wx B g a N' o' o2' A' C' ∧ Below B w2 wx) (fun n19 _ => l - (valOf n19).toNat)
          case atStart => exact ⟨0, rfl, by omega, hM3, hb3⟩
          case round =>
          
            clear hM3 hb3
            obtain ⟨k, rfl, hk, hM4, hb4⟩ := hrel
            have yp := (hb4.block wz (by omega)).trans y3
            obtain ⟨p0, p1, p2⟩ := pl_cells (p := pA) yp
            simp only [pA] at p0 p1 p2
            have kL := gi_len wr B a N' _ _ hM4.g2 pA
            rw [hll] at kL
            simp only [pK, P.hK, pA] at kL
            by_cases hkl : k < l
            · have dl : decide ((k : Int) < l) = true := by simpa using hkl
              have e10 : IntKind.i64.wrap ((k : Int) + 1) = (k : Int) + 1 := IntWalk.i64_in _ (by omega)
              go_upto_region 39 with (go_at_call 15; go_loud (refine kL.mono ?_; rintro e v1 ⟨rfl, hv1⟩))
              have hM5 := hM4.bel hv1
              have hb5 := hb4.trans (hv1.mono hM4.g1.size)
              have kA := gi_at v1 B g N' _ _ hM5.g1 pA (by omega) k
              rw [atO_eq] at kA
              have kB := fun (W : World) (h : Gi W B a N' (one1Y o') C') => gi_at W B a N' _ _ h pA (by omega) k
              generalize (atY (one1Y o') pA k).isSome = bs at kA kB
              generalize (atY (one1Y o') pA k).map Prod.fst = pk at kA kB
              simp only [oV_eq, pK, P.hK, pA] at kA kB
              have yp := (hv1.block _ (heap_lt yp)).trans yp
              obtain ⟨p0, p1, p2⟩ := pl_cells (p := pA) yp
              simp only [pA] at p0 p1 p2
              clear kL hM4 hb4 hv1
              go_upto_region 40 with (go_at_call 16; go_loud (refine kA.mono ?_; rintro e v2 ⟨rfl, hv2⟩))
              have hv3 := hv2.alloc hv2.size (.cells #[.int .i64 (o1 pk), .int .u64 (Go.Proofs.Ythgpbbpmfpfjnaa.o2 pk)] 31)
              have hM6 := hM5.bel hv3
              have hb6 := hb5.trans (hv3.mono hM5.g1.size)
              have ya := heap_alloc_new v2 (.cells #[.int .i64 (o1 pk), .int .u64 (Go.Proofs.Ythgpbbpmfpfjnaa.o2 pk)] 31)
              have yp := (hv3.block _ (heap_lt yp)).trans yp
              clear kA hM5 hb5 hv2 hv3
              generalize v2.alloc (.cells #[.int .i64 (o1 pk), .int .u64 (Go.Proofs.Ythgpbbpmfpfjnaa.o2 pk)] 31) = v3 at hM6 hb6 ya yp ⊢
              generalize v2.heap.size = za at ya ⊢
              obtain ⟨p0, p1, p2⟩ := pl_cells (p := pA) yp
              simp only [pA] at p0 p1 p2
              have kB := kB v3 hM6.g2
              go_upto_region 41 with (go_at_call 16; go_loud (refine kB.mono ?_; rintro e v4 ⟨rfl, hv4⟩))
              have hv5 := hv4.alloc hv4.size (.cells #[.int .i64 (o1 pk), .int .u64 (Go.Proofs.Ythgpbbpmfpfjnaa.o2 pk)] 31)
              have hM7 := hM6.bel hv5
              have hb7 := hb6.trans (hv5.mono hM6.g1.size)
              have yb := heap_alloc_new v4 (.cells #[.int .i64 (o1 pk), .int .u64 (Go.Proofs.Ythgpbbpmfpfjnaa.o2 pk)] 31)
              have ya := (hv5.block _ (heap_lt ya)).trans ya
              clear kB hM6 hb6 hv4 hv5 p0 p1 p2
              generalize v4.alloc (.cells #[.int .i64 (o1 pk), .int .u64 (Go.Proofs.Ythgpbbpmfpfjnaa.o2 pk)] 31) = v5 at hM7 hb7 ya yb ⊢
              generalize v4.heap.size = zb at yb ⊢
              obtain ⟨a0, a1⟩ := hd_cells (k := (o1 pk, Go.Proofs.Ythgpbbpmfpfjnaa.o2 pk)) ya
              obtain ⟨b0, b1⟩ := hd_cells (k := (o1 pk, Go.Proofs.Ythgpbbpmfpfjnaa.o2 pk)) yb
              simp only at a0 a1 b0 b1
              have nq := fun W => neqH (o1 pk) (o1 pk) (Go.Proofs.Ythgpbbpmfpfjnaa.o2 pk) (Go.Proofs.Ythgpbbpmfpfjnaa.o2 pk) W
              simp only [beq_self_eq_true, Bool.and_self, Bool.not_true] at nq
              clear hll yp hl
              go_upto_region 38 with fail
              clear nq a0 a1 b0 b1 ya yb
              go_wp2
              refine ⟨⟨k + 1, ?_, ?_, hM7, hb7⟩, ?_⟩
              · simp
              · omega
              · simp only [valOf]; omega
            · have dl : decide ((k : Int) < l) = false := by simp; omega
              go_wp2_with (go_at_call 15; go_loud (refine kL.mono ?_; rintro e v1 ⟨rfl, hv1⟩))
              exact ⟨⟨i + 1, N', o', o2', A', C', by simp, by omega, by omega, hM4.bel hv1, hb4.trans (hv1.mono hM4.g1.size)⟩, by simp [valOf]; omega⟩
    · have d : decide ((i : Int) < L0.length) = false := by simp; omega
      have hend : Below w.heap.size w wr := by rw [hwz.out]; exact hbw2.trans (hbl.mono hwz2)
      go_wp2_with (go_at_call 7; refine (kw _).mono ?_; rintro e v1 ⟨rfl, hv1⟩)
      all_goals go_returns
      exact ⟨rfl, hend.trans (hv1.mono hend.size)⟩

theorem readable : ∀ t ∈ Try.f6.params.toList, Try.prog.readableRec t = true ∧ t < Try.prog.types.size := by
  rw [Try.params6]
  intro t ht
  simp at ht
  rcases ht with rfl
  all_goals exact ⟨by kernel_rfl, of_decide_eq_true (by kernel_rfl)⟩
set_option maxRecDepth 100000 in
theorem lifted (os : Os) (started : os.Started) (H : Type) (enc : TypeId × Value → H) :
    ReturnsInHanded {} Try.checked os 6 .any (Rows.graphApartSpec.pre6 enc Try.prog Try.f6 Rows.graphApartRow.domain false) (Rows.graphApartSpec.post enc Try.prog Try.f6 false true false false) := by
  refine returnsInHanded_of_change (C := Try.checked) own started (by kernel_rfl) Try.func6
    (ChangeSpec.witness6 (enc := enc) (C := Try.checked) false ⟨#[], #[.slice none 0 0], []⟩ 8 (by kernel_rfl) (by kernel_rfl) (by kernel_rfl) (by kernel_rfl)) ?_
  intro W base args ds gs before hval0 hW hcnd _
  have hval : ∀ (j : Nat) t v, Try.f6.params[j]? = some t → args[j]? = some v → Value.okWide Try.prog W .any base t v := hval0
  have hW' := hW
  obtain ⟨p, q, hA0, hV, rfl, hfz, hnd⟩ := hW
  have hA : DataW.TrodAll enc Try.prog W 0 (fun _ => true) true Try.f6.params.toList args.toList ds p := hA0
  rw [Try.params6] at hA hval
  obtain ⟨v0, vs0, d0, ds0, p0, q0, hargs, rfl, rfl, h0, r0⟩ := trodAll_cons hA
  obtain ⟨rfl, rfl, rfl⟩ := trodAll_nil r0
  obtain rfl : args = #[v0] := by cases args; simp_all
  obtain ⟨rfl, rfl⟩ := trodVars_none hV
  obtain ⟨p0, L0, c0, rfl, hL0⟩ := open_sts (hval 0 22 v0 rfl rfl) h0
  clear hA0 hval0
  refine (walk p0 L0 c0 W hL0).mono fun e W' ⟨he, hg⟩ => ?_
  subst he
  exact ⟨_, rfl, post_bel readable hW' rfl (fun _ _ _ => (trodAll_cons_mk (shut_bool Try.underlying4 _) trodAll_mk0)) rfl (fun _ => rfl)
    hg (ok_one (by kernel_rfl) rfl (okWide_bool_mk Try.underlying4 _))⟩

theorem over : Rows.graphApartRow.holds Try.pinned (OpenSpec.ofChange Rows.graphApartSpec) :=
  OpenClaim.holds_of_wide 6 Try.f6 rfl rfl rfl rfl rfl rfl rfl ⟨rfl, rfl, rfl, rfl, rfl⟩ rfl rfl rfl rfl rfl (by kernel_rfl) Try.func6 (by kernel_rfl)
    (of_decide_eq_true (by kernel_rfl)) (by unfold Func.isWrapper; first | (rw [if_pos (by decide +kernel)]; kernel_rfl) | (rw [if_neg (by decide +kernel)]; exact ⟨rfl, rfl⟩))
    (fun os started H enc _ => lifted os started H enc)

theorem proved : Rows.GraphApartSaid :=
  over
end Go.Proofs.Ythgpbbpmfpfjnaa.graphApart
namespace Go.Proofs.Ythgpbbpmfpfjnaa
theorem graphApart_holds : Rows.GraphApartSaid :=
  graphApart.proved
#print axioms graphApart_holds
end Go.Proofs.Ythgpbbpmfpfjnaa
