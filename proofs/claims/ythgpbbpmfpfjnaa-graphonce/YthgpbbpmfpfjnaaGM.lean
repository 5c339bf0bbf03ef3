/- Towards the statements of package graph (layer 17): leave, walked. -/
import Derived.Test.YthgpbbpmfpfjnaaGL
namespace Go.Proofs.Ythgpbbpmfpfjnaa
open Go.ChangeShapes Go.WideShapes Go.ChangeAt Go.RowKit
set_option linter.unusedVariables false
set_option linter.unusedSimpArgs false
set_option maxRecDepth 20000
theorem hd_cells {W : World} {b : Nat} {k : HKey} {t : TypeId} (h : W.heap[b]? = some (.cells #[.int .i64 k.1, .int .u64 k.2] t (0, 0))) : W.cell? ⟨b, 0, none⟩ = some (.int .i64 k.1) ∧ W.cell? ⟨b, 1, none⟩ = some (.int .u64 k.2) := by
  refine ⟨?_, ?_⟩ <;> (rw [cell_of h]; rfl)
set_option maxHeartbeats 2000000 in
theorem leave_gr (w : World) (B g m1 m2 N : Nat) (Z : Zs) (h : Gr w B g m1 m2 N Z) (p : PKey) (x : Sp) (hz : Z p = some x) (f : FKey) (hf : f ∈ x.L) :
    Calls Try.prog 26 #[.pointer (some ⟨g, 0, none⟩), pK p, hK2 f.1] w fun e w' => e = .returned (.tuple #[]) ∧ ∃ Z', Gr w' B g m1 m2 N Z' ∧ FG B (Fp g m1 m2 Z) (Fp g m1 m2 Z') w w' ∧ yOf Z' = cutY (yOf Z) p f := by
  have hb1 := ((Below.refl _ w).alloc (Nat.le_refl _) (.cells #[.int .i64 p.1, .int .i64 p.2.1, .int .i64 p.2.2] 28)).alloc (by simp) (.cells #[.int .i64 f.1.1, .int .u64 f.1.2] 31)
  have y4 := heap_al (heap_alloc_new w (.cells #[.int .i64 p.1, .int .i64 p.2.1, .int .i64 p.2.2] 28)) (.cells #[.int .i64 f.1.1, .int .u64 f.1.2] 31)
  have y5 := heap_alloc_new (w.alloc (.cells #[.int .i64 p.1, .int .i64 p.2.1, .int .i64 p.2.2] 28)) (.cells #[.int .i64 f.1.1, .int .u64 f.1.2] 31)
  rw [World.size_alloc] at y5
  have hBw := h.size
  have hltw := h.lt
  have g1 := h.bel hb1
  unfold pK P.hK hK2
  go_enter Try.func26, Try.ntmps26
  go_upto_region 1 with fail
  generalize (w.alloc (.cells #[.int .i64 p.1, .int .i64 p.2.1, .int .i64 p.2.2] 28)).alloc (.cells #[.int .i64 f.1.1, .int .u64 f.1.2] 31) = W at hb1 y4 y5 g1 ⊢
  generalize hwz : w.heap.size = wz at *
  have c0 := g1.c0
  obtain ⟨d0, d1, d2⟩ := pl_cells y4
  have q1 := fun n => (g1.spot p).2 x hz (W.drewN n) rfl
  unfold P.hK at q1
  go_quiet (fail)
  have g2 := g1.bel (Below.drewN (Below.refl _ W) nq)
  have hb2 := Below.drewN hb1 nq
  have z4 : (W.drewN nq).heap[wz]? = _ := y4
  have z5 : (W.drewN nq).heap[wz + 1]? = _ := y5
  clear q1 c0 d0 d1 d2 g1 hb1 y4 y5
  generalize W.drewN nq = w0 at g2 hb2 z4 z5 ⊢
  have hat := g2.at_ p x hz
  have hlt1 := g2.lt m1 (.inr (.inl rfl))
  have hlt2 := g2.lt m2 (.inr (.inr (.inl rfl)))
  have hltg := g2.lt g (.inl rfl)
  have hlty := hat.lt x.y (.tail _ (.head _))
  have hlts := hat.lt x.s (.head _)
  obtain ⟨og, om1, om2⟩ := g2.out p x hz
  have inS : ∀ k, k ∉ x.foot → k ∉ x.S := fun k hn q => hn (by simp [Sp.foot, q])
  have hbx : wz ∉ x.foot ∧ wz + 1 ∉ x.foot := by
    constructor
    · intro q; have := (hltw wz (.inr (.inr (.inr ⟨p, x, hz, q⟩)))).2; omega
    · intro q; have := (hltw (wz + 1) (.inr (.inr (.inr ⟨p, x, hz, q⟩)))).2; omega
  have m1y : x.y ≠ m1 := by rintro e; exact om1 (by simp [Sp.foot, ← e])
  have m2y : x.y ≠ m2 := by rintro e; exact om2 (by simp [Sp.foot, ← e])
  have m2s : x.s ≠ m2 := by rintro e; exact om2 (by simp [Sp.foot, ← e])
  have yg := g2.cells
  have ys := hat.cells
  -- the node's place is struck
  obtain ⟨ny, Fy, hFy, hFy2⟩ := hat.by_
  obtain ⟨nf, Qf, hQf, hQf2⟩ := g2.ins
  have eby : Fy f.1 = some (.int .i64 f.2) := (hFy2 _ _).2 ⟨f.2, hf, rfl⟩
  have c0 := g2.c0
  have c1 := g2.c1
  have x1 := hat.c1
  obtain ⟨b0, b1⟩ := hd_cells z5
  obtain ⟨d0, d1, d2⟩ := pl_cells z4
  have q2 : (Instr.lookup 80 (.map (some x.y)) (.agg #[.int .i64 f.1.1, .int .u64 f.1.2]) false).run Try.prog w0.drew = .ok (.int .i64 f.2) w0.drew := by
    have := HM.look1 Try.underlying80 (hFy.drewN 1) f.1 (zero3 w0.drew)
    rw [eby] at this
    exact this
  obtain ⟨w1, p1, i1, t1⟩ := F.HM.del (w := w0.drew) Try.underlying55 (hQf.keep rfl) f 0
  unfold F.hK at p1
  go_upto_region 2 with fail
  go_region
  have s1 : w1.heap.size = w0.heap.size := turn_size (w := w0.drew) t1
  replace z4 := T.turn_block t1 z4 (fun _ _ q => by cases q)
  replace z5 := T.turn_block t1 z5 (fun _ _ q => by cases q)
  replace yg := T.turn_block t1 yg (fun _ _ q => by cases q)
  replace ys := T.turn_block t1 ys (fun _ _ q => by cases q)
  clear c0 c1 x1 b0 b1 d0 d1 d2 q2 p1
  obtain ⟨w2, p2, i2, t2⟩ := HM.del (w := w1.drew) Try.underlying80 (hFy.keep (T.turn_other (w := w0.drew) (w' := w1) t1 (show x.y < w0.heap.size by omega) m2y)) f.1 0
  unfold hK at p2
  have x1 : w1.cell? ⟨x.s, 1, none⟩ = some (.map (some x.y)) := by rw [cell_of ys]; rfl
  obtain ⟨b0, b1⟩ := hd_cells z5
  go_upto_region 3 with fail
  go_region
  have s2 : w2.heap.size = w1.heap.size := turn_size (w := w1.drew) t2
  replace z4 := T.turn_block t2 z4 (fun _ _ q => by cases q)
  replace z5 := T.turn_block t2 z5 (fun _ _ q => by cases q)
  replace yg := T.turn_block t2 yg (fun _ _ q => by cases q)
  replace ys := T.turn_block t2 ys (fun _ _ q => by cases q)
  clear x1 b0 b1 p2
  have k2 : ∀ k ∈ x.S, w2.drew.heap[k]? = w0.heap[k]? := by
    intro k hk
    have hkl := (hat.lt k (by simp [Sp.foot, hk])).2
    have n1 : k ≠ m2 := by rintro rfl; exact om2 (by simp [Sp.foot, hk])
    have n2 : k ≠ x.y := by rintro rfl; exact hat.yn hk
    exact (T.turn_other (w := w1.drew) (w' := w2) t2 (show k < w1.heap.size by omega) n2).trans (T.turn_other (w := w0.drew) (w' := w1) t1 (show k < w0.heap.size by omega) n1)
  have cs : w2.drew.cell? ⟨x.s, 0, none⟩ = some (.iface (if x.tr then 91 else 87) (.agg #[.pointer (some ⟨x.l, 0, none⟩)])) := (cell_of ys 0).trans rfl
  obtain ⟨b0, b1⟩ := hd_cells z5
  have b0 : w2.drew.cell? ⟨wz + 1, 0, none⟩ = _ := b0
  have b1 : w2.drew.cell? ⟨wz + 1, 1, none⟩ = _ := b1
  have hbw2 : Below B w0 w2 := Below.turn (Below.drew (Below.turn (Below.drew (Below.refl B w0)) t1 g2.bB (show B ≤ w0.heap.size by omega))) t2 hat.yB (show B ≤ w1.heap.size by omega)
  have hKl : (x.L.erase f).map Prod.fst = x.K.erase f.1 := erase_key hat.kd hf
  have hlen : (x.K.erase f.1).length = (x.L.erase f).length := by rw [← hKl, List.length_map]
  have hin : ∀ {A' : Nat → Prop} {wf : World}, FG B (Fp g m1 m2 Z) A' w0 wf → FG B (Fp g m1 m2 Z) A' w wf := fun q => (FG.of (hwz ▸ hb2) (by omega)).trans q
  go_upto_region 4 with fail
  cases ht : x.tr with
  | false =>
    simp only [ht, Bool.false_eq_true, if_false, if_true] at cs ys
    have hm := s87_leave x.s x.l _ cs
    have hL0 := (hat.li ht).keep k2
    have k3 := lleave_any w2.drew B x.l x.K x.S hL0 f.1
    unfold hK2 at k3
    go_cut [] (fun wx => ∃ S', Li wx B x.l (x.K.erase f.1) S' ∧ FL B x.S S' w2.drew wx)
    case first =>
      go_region_with (go_at_call 89; refine k3.mono ?_; rintro e w3 ⟨rfl, S', hL, hF⟩)
      all_goals go_wp2_with fail
      all_goals go_meet
      all_goals exact ⟨_, by assumption, by assumption⟩
    case rest =>
      obtain ⟨S', hL, hF⟩ := hcut
      have s3 : w2.heap.size ≤ wc.heap.size := hF.bel.size
      have k3' : ∀ k, k < w2.heap.size → k ∉ x.S → wc.heap[k]? = w2.heap[k]? := fun k hk hn => hF.keep k hk hn
      replace ys := (k3' x.s (by omega) hat.sn).trans ys
      replace yg := (k3' g (by omega) (inS _ og)).trans yg
      have hz4 := heap_lt z4
      replace z4 := (k3' wz (by omega) (inS _ hbx.1)).trans z4
      have cs : wc.cell? ⟨x.s, 0, none⟩ = some (.iface 87 (.agg #[.pointer (some ⟨x.l, 0, none⟩)])) := by rw [cell_of ys]; rfl
      have hm := s87_Len x.s x.l wc cs
      have k4 := len_li wc B x.l _ S' hL
      rw [hlen] at k4
      have hbw3 : Below B w0 wc := hbw2.drew.trans hF.bel
      obtain ⟨Qs, hQs, hQs2⟩ := g2.spots
      have hm13 : wc.heap[m1]? = w0.heap[m1]? := (k3' m1 (by omega) (inS _ om1)).trans ((T.turn_other (w := w1.drew) (w' := w2) t2 (show m1 < w1.heap.size by omega) m1y.symm).trans (T.turn_other (w := w0.drew) (w' := w1) t1 (show m1 < w0.heap.size by omega) g2.ab))
      by_cases he : x.L.erase f = []
      · rw [he] at k4
        have hb5 : (([] : List FKey).length : Int) = 0 := rfl
        rw [hb5] at k4
        obtain ⟨w4, p4, i4, t4⟩ := P.HM.del (w := wc.drew) Try.underlying54 (hQs.keep hm13) p 0
        unfold P.hK at p4
        obtain ⟨d0, d1, d2⟩ := pl_cells z4
        have g0 : wc.cell? ⟨g, 0, none⟩ = some (.map (some m1)) := by rw [cell_of yg]; rfl
        go_upto_region 6 with (go_at_call 78; refine k4.mono ?_; rintro e w' ⟨rfl, hw⟩; rw [hw]; clear hw)
        go_region
        have fin := Gr.cut (v0 := w0.drew) (v1 := w1.drew) (v2 := w2.drew) g2 hz f hf none (by rw [if_pos he]) rfl t1 ⟨_, Qf, hQf2, i1⟩ rfl t2 ⟨_, Fy, hFy2, i2⟩ rfl hF (fun e => hL) (fun e => by rw [ht] at e; cases e) (Below.turn (Below.drew hbw3) t4 g2.aB (show B ≤ wc.heap.size by omega)) (fun k hk hn => T.turn_other (w := wc.drew) (w' := w4) t4 hk hn) ⟨_, i4, fun q v => by
          by_cases e : q = p
          · subst e
            rw [P.updH_self, updZ_self]
            exact ⟨(fun q => by cases q), (fun ⟨y, e, _⟩ => by cases e)⟩
          · rw [P.updH_ne _ _ e, updZ_ne _ _ e]; exact hQs2 q v⟩
        obtain ⟨Z', a1, a2, a3⟩ := fin
        go_wp2
        all_goals go_returns
        all_goals exact ⟨rfl, Z', a1, hin a2, a3⟩
      · have hp : 0 < (x.L.erase f).length := List.length_pos_iff.2 he
        have hd : (((x.L.erase f).length : Int) == 0) = false := beq_false_of_ne (by omega)
        generalize ((x.L.erase f).length : Int) = nl at k4 hd
        have fin := Gr.cut (v0 := w0.drew) (v1 := w1.drew) (v2 := w2.drew) g2 hz f hf (some (x.to (x.L.erase f) S')) (by rw [if_neg he]) rfl t1 ⟨_, Qf, hQf2, i1⟩ rfl t2 ⟨_, Fy, hFy2, i2⟩ rfl hF (fun e => hL) (fun e => by rw [ht] at e; cases e) hbw3 (fun k hk hn => rfl) ⟨Qs, hQs.keep hm13, fun q v => by
          by_cases e : q = p
          · subst e
            rw [updZ_self, hQs2]
            constructor
            · rintro ⟨y, e, rfl⟩; rw [hz] at e; cases e; exact ⟨_, rfl, rfl⟩
            · rintro ⟨y, e, rfl⟩; cases e; exact ⟨x, hz, rfl⟩
          · rw [updZ_ne _ _ e]; exact hQs2 q v⟩
        obtain ⟨Z', a1, a2, a3⟩ := fin
        go_wp2_with (go_at_call 78; refine k4.mono ?_; rintro e w' ⟨rfl, hw⟩; rw [hw]; clear hw)
        all_goals go_returns
        all_goals exact ⟨rfl, Z', a1, hin a2, a3⟩
  | true =>
    simp only [ht, Bool.false_eq_true, if_false, if_true] at cs ys
    have hm := s91_leave x.s x.l _ cs
    have hL0 := (hat.ti ht).keep k2
    have k3 := tleave_any w2.drew B x.l x.K x.S hL0 f.1
    unfold hK2 at k3
    go_cut [] (fun wx => ∃ S', T.Ti wx B x.l (x.K.erase f.1) S' ∧ FL B x.S S' w2.drew wx)
    case first =>
      go_region_with (go_at_call 114; refine k3.mono ?_; rintro e w3 ⟨rfl, S', hL, hF⟩)
      all_goals go_wp2_with fail
      all_goals go_meet
      all_goals exact ⟨_, by assumption, by assumption⟩
    case rest =>
      obtain ⟨S', hL, hF⟩ := hcut
      have s3 : w2.heap.size ≤ wc.heap.size := hF.bel.size
      have k3' : ∀ k, k < w2.heap.size → k ∉ x.S → wc.heap[k]? = w2.heap[k]? := fun k hk hn => hF.keep k hk hn
      replace ys := (k3' x.s (by omega) hat.sn).trans ys
      replace yg := (k3' g (by omega) (inS _ og)).trans yg
      have hz4 := heap_lt z4
      replace z4 := (k3' wz (by omega) (inS _ hbx.1)).trans z4
      have cs : wc.cell? ⟨x.s, 0, none⟩ = some (.iface 91 (.agg #[.pointer (some ⟨x.l, 0, none⟩)])) := by rw [cell_of ys]; rfl
      have hm := s91_Len x.s x.l wc cs
      have k4 := T.len_ti wc B x.l _ S' hL
      rw [hlen] at k4
      have hbw3 : Below B w0 wc := hbw2.drew.trans hF.bel
      obtain ⟨Qs, hQs, hQs2⟩ := g2.spots
      have hm13 : wc.heap[m1]? = w0.heap[m1]? := (k3' m1 (by omega) (inS _ om1)).trans ((T.turn_other (w := w1.drew) (w' := w2) t2 (show m1 < w1.heap.size by omega) m1y.symm).trans (T.turn_other (w := w0.drew) (w' := w1) t1 (show m1 < w0.heap.size by omega) g2.ab))
      by_cases he : x.L.erase f = []
      · rw [he] at k4
        have hb5 : (([] : List FKey).length : Int) = 0 := rfl
        rw [hb5] at k4
        obtain ⟨w4, p4, i4, t4⟩ := P.HM.del (w := wc.drew) Try.underlying54 (hQs.keep hm13) p 0
        unfold P.hK at p4
        obtain ⟨d0, d1, d2⟩ := pl_cells z4
        have g0 : wc.cell? ⟨g, 0, none⟩ = some (.map (some m1)) := by rw [cell_of yg]; rfl
        go_upto_region 6 with (go_at_call 97; refine k4.mono ?_; rintro e w' ⟨rfl, hw⟩; rw [hw]; clear hw)
        go_region
        have fin := Gr.cut (v0 := w0.drew) (v1 := w1.drew) (v2 := w2.drew) g2 hz f hf none (by rw [if_pos he]) rfl t1 ⟨_, Qf, hQf2, i1⟩ rfl t2 ⟨_, Fy, hFy2, i2⟩ rfl hF (fun e => by rw [ht] at e; cases e) (fun e => hL) (Below.turn (Below.drew hbw3) t4 g2.aB (show B ≤ wc.heap.size by omega)) (fun k hk hn => T.turn_other (w := wc.drew) (w' := w4) t4 hk hn) ⟨_, i4, fun q v => by
          by_cases e : q = p
          · subst e
            rw [P.updH_self, updZ_self]
            exact ⟨(fun q => by cases q), (fun ⟨y, e, _⟩ => by cases e)⟩
          · rw [P.updH_ne _ _ e, updZ_ne _ _ e]; exact hQs2 q v⟩
        obtain ⟨Z', a1, a2, a3⟩ := fin
        go_wp2
        all_goals go_returns
        all_goals exact ⟨rfl, Z', a1, hin a2, a3⟩
      · have hp : 0 < (x.L.erase f).length := List.length_pos_iff.2 he
        have hd : (((x.L.erase f).length : Int) == 0) = false := beq_false_of_ne (by omega)
        generalize ((x.L.erase f).length : Int) = nl at k4 hd
        have fin := Gr.cut (v0 := w0.drew) (v1 := w1.drew) (v2 := w2.drew) g2 hz f hf (some (x.to (x.L.erase f) S')) (by rw [if_neg he]) rfl t1 ⟨_, Qf, hQf2, i1⟩ rfl t2 ⟨_, Fy, hFy2, i2⟩ rfl hF (fun e => by rw [ht] at e; cases e) (fun e => hL) hbw3 (fun k hk hn => rfl) ⟨Qs, hQs.keep hm13, fun q v => by
          by_cases e : q = p
          · subst e
            rw [updZ_self, hQs2]
            constructor
            · rintro ⟨y, e, rfl⟩; rw [hz] at e; cases e; exact ⟨_, rfl, rfl⟩
            · rintro ⟨y, e, rfl⟩; cases e; exact ⟨x, hz, rfl⟩
          · rw [updZ_ne _ _ e]; exact hQs2 q v⟩
        obtain ⟨Z', a1, a2, a3⟩ := fin
        go_wp2_with (go_at_call 97; refine k4.mono ?_; rintro e w' ⟨rfl, hw⟩; rw [hw]; clear hw)
        all_goals go_returns
        all_goals exact ⟨rfl, Z', a1, hin a2, a3⟩
end Go.Proofs.Ythgpbbpmfpfjnaa
