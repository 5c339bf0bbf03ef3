/- Towards the statements of package graph (layer 17): a handle comes into a place. -/
import Derived.Test.YthgpbbpmfpfjnaaGJ
namespace Go.Proofs.Ythgpbbpmfpfjnaa
open Go.ChangeShapes Go.WideShapes Go.ChangeAt Go.RowKit
set_option linter.unusedVariables false
set_option linter.unusedSimpArgs false
set_option maxRecDepth 20000
set_option maxHeartbeats 2000000 in
theorem enter_ins (w : World) (B g m1 m2 N : Nat) (Z : Zs) (h : Gr w B g m1 m2 N Z) (hN : N + 1 ≤ 2000) (p : PKey) (f : FKey) (i : Int) (a b : Nat) (ha : w.heap[a]? = some (.cells #[.int .i64 i] 3 (0, 0))) (hb : w.heap[b]? = some (.cells #[.int .i64 f.1.1, .int .u64 f.1.2] 31 (0, 0))) :
    Calls Try.prog 21 #[.pointer (some ⟨g, 0, none⟩), pK p, F.hK f, .func (.func 24) #[] #[], .func (.func 25) #[] #[.pointer (some ⟨a, 0, none⟩), .pointer (some ⟨b, 0, none⟩)]] w fun e w' => ∃ r, e = .returned (.int .i64 r) ∧ ∃ Z', Gr w' B g m1 m2 (N + 1) Z' ∧ FG B (Fp g m1 m2 Z) (Fp g m1 m2 Z') w w' ∧ (r, yOf Z') = insY (yOf Z) p i f := by
  have hb1 := ((Below.refl _ w).alloc (Nat.le_refl _) (.cells #[.int .i64 p.1, .int .i64 p.2.1, .int .i64 p.2.2] 28)).alloc (by simp) (.cells #[.int .i64 f.1.1, .int .u64 f.1.2, .int .i64 f.2] 60)
  have y6 := heap_al (heap_alloc_new w (.cells #[.int .i64 p.1, .int .i64 p.2.1, .int .i64 p.2.2] 28)) (.cells #[.int .i64 f.1.1, .int .u64 f.1.2, .int .i64 f.2] 60)
  have y7 := heap_alloc_new (w.alloc (.cells #[.int .i64 p.1, .int .i64 p.2.1, .int .i64 p.2.2] 28)) (.cells #[.int .i64 f.1.1, .int .u64 f.1.2, .int .i64 f.2] 60)
  rw [World.size_alloc] at y7
  have g1 := h.bel hb1
  obtain ⟨pi, bi, hlook, hpb⟩ := g1.find f
  unfold F.hK at hlook
  unfold pK P.hK at hlook
  unfold pK P.hK F.hK
  have hBw := h.size
  go_enter Try.func21, Try.ntmps21
  go_upto_region 1 with fail
  generalize (w.alloc (.cells #[.int .i64 p.1, .int .i64 p.2.1, .int .i64 p.2.2] 28)).alloc (.cells #[.int .i64 f.1.1, .int .u64 f.1.2, .int .i64 f.2] 60) = W at hb1 y6 y7 g1 hlook ⊢
  have k1 := gmade_yes W g m1 g1.c0
  go_upto_region 3 with (go_at_call 28; refine k1.mono ?_; rintro e w' ⟨rfl, hw⟩; rw [hw]; clear hw)
  clear k1
  go_cut [12] (fun n12 wx => n12 = .bool bi ∧ wx = (W.alloc (.cells #[.int .i64 pi.1, .int .i64 pi.2.1, .int .i64 pi.2.2] 28)).drew)
  case first =>
    have c1 := g1.c1
    obtain ⟨a0, a1, a2⟩ := fd_cells y7
    have hm2 : m2 < W.heap.size := (g1.lt m2 (.inr (.inr (.inl rfl)))).2
    have q1 := hlook W.drew rfl
    have q2 := hlook (W.alloc (.cells #[.int .i64 0, .int .i64 0, .int .i64 0] 28)).drew (Below.heap_alloc _ _ _ hm2)
    have b0 := cell_al a0 (.cells #[.int .i64 0, .int .i64 0, .int .i64 0] 28)
    have b1 := cell_al a1 (.cells #[.int .i64 0, .int .i64 0, .int .i64 0] 28)
    have b2 := cell_al a2 (.cells #[.int .i64 0, .int .i64 0, .int .i64 0] 28)
    have c1' := cell_al c1 (.cells #[.int .i64 0, .int .i64 0, .int .i64 0] 28)
    go_region
    all_goals go_wp2_with fail
    all_goals go_meet
    all_goals exact ⟨rfl, rfl⟩
  case rest =>
    obtain ⟨rfl, rfl⟩ := hcut
    have hb2 : Below w.heap.size w (W.alloc (.cells #[.int .i64 pi.1, .int .i64 pi.2.1, .int .i64 pi.2.2] 28)).drew := (hb1.alloc hb1.size _).drew
    have g2 : Gr (W.alloc (.cells #[.int .i64 pi.1, .int .i64 pi.2.1, .int .i64 pi.2.2] 28)).drew B g m1 m2 N Z := h.bel hb2
    have z6 : (W.alloc (.cells #[.int .i64 pi.1, .int .i64 pi.2.1, .int .i64 pi.2.2] 28)).drew.heap[w.heap.size]? = some (.cells #[.int .i64 p.1, .int .i64 p.2.1, .int .i64 p.2.2] 28 (0, 0)) := heap_al y6 _
    have z7 : (W.alloc (.cells #[.int .i64 pi.1, .int .i64 pi.2.1, .int .i64 pi.2.2] 28)).drew.heap[w.heap.size + 1]? = some (.cells #[.int .i64 f.1.1, .int .u64 f.1.2, .int .i64 f.2] 60 (0, 0)) := heap_al y7 _
    clear hb1 g1 y6 y7 hlook
    generalize (W.alloc (.cells #[.int .i64 pi.1, .int .i64 pi.2.1, .int .i64 pi.2.2] 28)).drew = W2 at hb2 g2 z6 z7 ⊢
    generalize hwz : w.heap.size = wz at *
    rcases hpb with ⟨rfl, x, hx, hfx⟩ | ⟨rfl, -, hnf⟩
    · go_wp2
      all_goals go_returns
      all_goals exact ⟨_, rfl, Z, g2.mono (Nat.le_succ N), FG.of (hwz ▸ hb2) (by omega), by unfold insY; rw [if_pos (there_of hx hfx)]⟩
    · have c0 := g2.c0
      obtain ⟨d0, d1, d2⟩ := pl_cells z6
      cases hz : Z p with
      | some x =>
        have q1 := fun n => (g2.spot p).2 x hz (W2.drewN n) rfl
        unfold P.hK at q1
        have qe := eq76_yes x.s
        go_upto_region 6 with fail
        go_quiet (fail)
        go_upto_region 9 with fail
        have fit := (Fit.of g2 hz).bel (Below.drewN (Below.refl _ W2) nq)
        have hb3 := Below.drewN hb2 nq
        have z6 : (W2.drewN nq).heap[wz]? = _ := z6
        have z7 : (W2.drewN nq).heap[wz + 1]? = _ := z7
        clear q1 qe c0 d0 d1 d2 g2 hb2
        have hbx : wz ∉ x.foot ∧ wz + 1 ∉ x.foot := by
          constructor
          · intro q; have := (h.lt wz (.inr (.inr (.inr ⟨p, x, hz, q⟩)))).2; omega
          · intro q; have := (h.lt (wz + 1) (.inr (.inr (.inr ⟨p, x, hz, q⟩)))).2; omega
        have hxf : ∀ k ∈ x.foot, Fp g m1 m2 Z k ∨ wz ≤ k := fun k hk => .inl (.inr (.inr (.inr ⟨p, x, hz, hk⟩)))
        generalize W2.drewN nq = W3 at fit hb3 z6 z7 ⊢
        obtain ⟨ny, Fy, hFy, hFy2⟩ := fit.at_.by_
        have c1 := fit.at_.c1
        obtain ⟨d0, d1, d2⟩ := fd_cells z7
        by_cases hk : f.1 ∈ x.K
        · obtain ⟨⟨h', nn⟩, hm, he⟩ := List.mem_map.1 hk
          have e80 := (hFy2 f.1 _).2 ⟨nn, by rw [← he]; exact hm, rfl⟩
          have q1 := fun n => HM.look_yes Try.underlying80 (hFy.drewN n) e80
          unfold hK at q1
          go_quiet (fail)
          go_wp2
          all_goals go_returns
          all_goals exact ⟨_, rfl, Z, (h.bel (hwz ▸ Below.drewN hb3 _)).mono (Nat.le_succ N), FG.of (hwz ▸ Below.drewN hb3 _) (by omega), (ins_eq3 hnf i hz (.inr hk)).symm⟩
        · have e80 : Fy f.1 = none := by
            cases e : Fy f.1 with
            | none => rfl
            | some v =>
              obtain ⟨n, hn, _⟩ := (hFy2 _ _).1 e
              exact absurd (List.mem_map.2 ⟨_, hn, rfl⟩) hk
          have q1 := fun n => HM.look_no Try.underlying80 (hFy.drewN n) e80 (zero3 _)
          unfold hK at q1
          go_quiet (fail)
          go_upto_region 12 with fail
          have fit := fit.bel (Below.drewN (Below.refl _ W3) nq)
          have hb3 := Below.drewN hb3 nq
          have z6 : (W3.drewN nq).heap[wz]? = _ := z6
          have z7 : (W3.drewN nq).heap[wz + 1]? = _ := z7
          clear q1 c1 d0 d1 d2 hFy hFy2 e80
          generalize W3.drewN nq = W4 at fit hb3 z6 z7 ⊢
          have c0 := fit.at_.c0
          have ha4 := (hb3.block _ (hwz ▸ heap_lt ha)).trans ha
          have hb4 := (hb3.block _ (hwz ▸ heap_lt hb)).trans hb
          have x0 := cell_of ha4 0
          have x1 := cell_of ha4 1
          have x2 := cell_of hb4 0
          have x3 := cell_of hb4 1
          simp at x0 x1 x2 x3
          cases ht : x.tr with
          | false =>
            simp only [ht, Bool.false_eq_true, if_false, if_true] at c0
            have k3 := insc_list W4 x.l a b f.1 i x0 x2 x3
            go_wp2_with (go_at_call 25; refine k3.mono ?_; rintro e w4 ⟨rfl, hb5⟩)
            all_goals go_returns
            all_goals exact ⟨_, rfl, Z, (h.bel (hwz ▸ hb3.trans (hb5.mono (below_size hb3 hwz)))).mono (Nat.le_succ N), FG.of (hwz ▸ hb3.trans (hb5.mono (below_size hb3 hwz))) (by omega), (ins_eq3 hnf i hz (.inl ht)).symm⟩
          | true =>
            simp only [ht, Bool.false_eq_true, if_false, if_true] at c0
            by_cases hi : i < 0 ∨ (x.L.length : Int) < i
            · have k3 := insc_bad W4 B x.l a b f.1 i x.K x.S (fit.at_.ti ht) (by rw [x.klen]; exact hi) x0 x2 x3
              go_wp2_with (go_at_call 25; refine k3.mono ?_; rintro e w4 ⟨rfl, hb5⟩)
              all_goals go_returns
              all_goals exact ⟨_, rfl, Z, (h.bel (hwz ▸ hb3.trans (hb5.mono (below_size hb3 hwz)))).mono (Nat.le_succ N), FG.of (hwz ▸ hb3.trans (hb5.mono (below_size hb3 hwz))) (by omega), (ins_eq2 hnf i fit.zx fit.zn ht hk hi).symm⟩
            · obtain ⟨hkk, hr⟩ := ins_keys x f i hk hi
              have k3 := insc_tree W4 B x.l a b f.1 i x.K x.S (fit.at_.ti ht) (by rw [x.klen]; have := fit.len; omega) x0 x2 x3
              rw [hr] at k3
              go_upto_region 15 with (go_at_call 25; refine k3.mono ?_; rintro e w4 ⟨rfl, S', hL, hF⟩)
              clear k3 x0 x1 x2 x3 c0 ha4 hb4
              have hLn := hL.nd
              have hlt1 := fit.gr.lt m1 (.inr (.inl rfl))
              have hlt2 := fit.gr.lt m2 (.inr (.inr (.inl rfl)))
              have hltg := fit.gr.lt g (.inl rfl)
              have hlty := fit.at_.lt x.y (.tail _ (.head _))
              have hlts := fit.at_.lt x.s (.head _)
              obtain ⟨og, om1, om2⟩ := fit.out
              have inS : ∀ k, k ∉ x.foot → k ∉ x.S := fun k hn q => hn (by simp [Sp.foot, q])
              obtain ⟨gk1, gk2⟩ := fit.gr.kinds
              have hwz6 := heap_lt z6
              have hwz7 := heap_lt z7
              have hf4 := hF.bel.size
              have y6 := (hF.keep wz hwz6 (inS _ hbx.1)).trans z6
              have y7 := (hF.keep (wz + 1) hwz7 (inS _ hbx.2)).trans z7
              have yg := (hF.keep g hltg.2 (inS _ og)).trans fit.gr.cells
              have ys := (hF.keep x.s hlts.2 fit.at_.sn).trans fit.at_.cells
              obtain ⟨Q1, hQ1, hQ1b⟩ := fit.gr.spots
              obtain ⟨w5, p5, i5, t5⟩ := P.HM.put (w := w4.drew) Try.underlying54 (hQ1.keep (hF.keep m1 hlt1.2 (inS _ om1))) (k := p) trivial (.pointer (some ⟨x.s, 0, none⟩))
              unfold P.hK at p5
              obtain ⟨d0, d1, d2⟩ := pl_cells y6
              have g0 : w4.cell? ⟨g, 0, none⟩ = some (.map (some m1)) := by rw [cell_of yg]; rfl
              go_region
              have s5 : w5.heap.size = w4.heap.size := turn_size (w := w4.drew) t5
              replace y6 := T.turn_block t5 y6 (fun _ _ q => by cases q)
              replace y7 := T.turn_block t5 y7 (fun _ _ q => by cases q)
              replace yg := T.turn_block t5 yg (fun _ _ q => by cases q)
              replace ys := T.turn_block t5 ys (fun _ _ q => by cases q)
              clear d0 d1 d2 g0 p5
              obtain ⟨ny, Fy, hFy, hFy2⟩ := fit.at_.by_
              have m1y : x.y ≠ m1 := by rintro e; exact om1 (by simp [Sp.foot, ← e])
              have m2y : x.y ≠ m2 := by rintro e; exact om2 (by simp [Sp.foot, ← e])
              obtain ⟨w6, p6, i6, t6⟩ := HM.put (w := w5.drew) Try.underlying80 (hFy.keep ((T.turn_other t5 (show x.y < w4.heap.size by omega) m1y).trans (hF.keep x.y hlty.2 fit.at_.yn))) (k := f.1) trivial (.int .i64 f.2)
              unfold hK at p6
              obtain ⟨d0, d1, d2⟩ := fd_cells y7
              have g0 : w5.cell? ⟨x.s, 1, none⟩ = some (.map (some x.y)) := by rw [cell_of ys]; rfl
              go_upto_region 16 with fail
              go_region
              have s6 : w6.heap.size = w5.heap.size := turn_size (w := w5.drew) t6
              replace y6 := T.turn_block t6 y6 (fun _ _ q => by cases q)
              replace y7 := T.turn_block t6 y7 (fun _ _ q => by cases q)
              replace yg := T.turn_block t6 yg (fun _ _ q => by cases q)
              clear d0 d1 d2 g0 p6
              obtain ⟨nf, Qf, hQf, hQf2⟩ := fit.gr.ins
              obtain ⟨w7, p7, i7, t7⟩ := F.HM.put (w := w6.drew) Try.underlying55 (hQf.keep ((T.turn_other t6 (show m2 < w5.heap.size by omega) m2y.symm).trans ((T.turn_other t5 (show m2 < w4.heap.size by omega) fit.gr.ab.symm).trans (hF.keep m2 hlt2.2 (inS _ om2))))) (k := f) trivial (pK p)
              unfold F.hK pK P.hK at p7
              obtain ⟨d0, d1, d2⟩ := fd_cells y7
              obtain ⟨d3, d4, d5⟩ := pl_cells y6
              have g0 : w6.cell? ⟨g, 1, none⟩ = some (.map (some m2)) := by rw [cell_of yg]; rfl
              go_upto_region 17 with fail
              go_region
              clear d0 d1 d2 d3 d4 d5 g0 p7
              have hB4 : B ≤ w4.heap.size := by omega
              have hb7 : Below B W4 w7 := Below.turn (Below.drew (Below.turn (Below.drew (Below.turn (Below.drew hF.bel) t5 fit.gr.aB hB4)) t6 fit.at_.yB (show B ≤ w5.heap.size by omega))) t7 fit.gr.bB (show B ≤ w6.heap.size by omega)
              have fin := Gr.put (v1 := w4.drew) (v2 := w5.drew) (v3 := w6.drew) fit f hnf hk (x.L.take i.toNat ++ f :: x.L.drop i.toNat) (fun f' => by exact mem_ins x.L f f' _) (by rw [hkk]; exact hLn) (by simp; omega) hb7 hF (fun e => by rw [ht] at e; cases e) (fun e => by rw [hkk]; exact hL) rfl t5 ⟨Q1, hQ1b, i5⟩ rfl t6 ⟨_, Fy, hFy2, i6⟩ rfl t7 ⟨_, Qf, hQf2, i7⟩
              go_wp2
              all_goals go_returns
              all_goals exact ⟨_, rfl, _, fin.1, FG.after (hwz ▸ hb3) (by omega) (by rw [hwz]; exact hxf) fin.2, (ins_eq0 hnf i _ fit.zx fit.zn ht hk hi).symm⟩
      | none =>
        have q1 := fun n => (g2.spot p).1 hz (W2.drewN n) rfl
        unfold P.hK at q1
        have qe := eq76_no
        go_upto_region 6 with fail
        go_quiet (fail)
        have g2 := g2.bel (Below.drewN (Below.refl _ W2) nq)
        have hb2 := Below.drewN hb2 nq
        have z6 : (W2.drewN nq).heap[wz]? = _ := z6
        have z7 : (W2.drewN nq).heap[wz + 1]? = _ := z7
        clear q1 c0 d0 d1 d2
        generalize W2.drewN nq = W1 at g2 hb2 z6 z7 ⊢
        have hmm := @run_makeMap Try.prog
        have k4 := fresh_tree W1
        go_upto_region 9 with (go_at_call 24; refine k4.mono ?_; rintro e w3 ⟨l, S, rfl, hL, hb5⟩)
        have fit0 := fit_new (p := p) g2 hz true l S hb5 (by simp) (fun _ => hL)
        obtain ⟨fit, hb6, hfo⟩ := fit0
        simp only [Bool.false_eq_true, if_false, if_true] at fit hb6
        have hb3 : Below wz w _ := hwz ▸ ((hwz ▸ hb2 : Below w.heap.size w W1).trans (hb6.mono (hwz ▸ hb2 : Below w.heap.size w W1).size))
        have z6 := (hb6.block _ (heap_lt z6)).trans z6
        have z7 := (hb6.block _ (heap_lt z7)).trans z7
        generalize hx : (⟨true, [], w3.heap.size + 1, l, w3.heap.size, S⟩ : Sp) = x at fit hfo
        have hxs : w3.heap.size + 1 = x.s := by rw [← hx]
        have hxt : x.tr = true := by rw [← hx]
        rw [hxs]
        have hlz := heap_lt z7
        have hbx : wz ∉ x.foot ∧ wz + 1 ∉ x.foot := by
          have a1 := heap_lt (show W1.heap[wz + 1]? = _ from by assumption)
          constructor
          · intro q; have := hfo _ q; omega
          · intro q; have := hfo _ q; omega
        have hxf : ∀ k ∈ x.foot, Fp g m1 m2 Z k ∨ wz ≤ k := fun k hk => .inr (by have := hfo k hk; have := (hwz ▸ hb2 : Below w.heap.size w W1).size; omega)
        generalize (w3.alloc (.map #[] 0)).alloc (.cells #[.iface 91 (.agg #[.pointer (some ⟨l, 0, none⟩)]), .map (some w3.heap.size)] 82) = W3 at fit hb3 z6 z7 hlz ⊢
        clear k4 hb6 hb5 hL hmm qe hx hxs hfo
        obtain ⟨ny, Fy, hFy, hFy2⟩ := fit.at_.by_
        have c1 := fit.at_.c1
        obtain ⟨d0, d1, d2⟩ := fd_cells z7
        by_cases hk : f.1 ∈ x.K
        · exact absurd hk (by rw [Sp.K, fit.zn hz]; simp)
        · have e80 : Fy f.1 = none := by
            cases e : Fy f.1 with
            | none => rfl
            | some v =>
              obtain ⟨n, hn, _⟩ := (hFy2 _ _).1 e
              exact absurd (List.mem_map.2 ⟨_, hn, rfl⟩) hk
          have q1 := fun n => HM.look_no Try.underlying80 (hFy.drewN n) e80 (zero3 _)
          unfold hK at q1
          go_quiet (fail)
          go_upto_region 12 with fail
          have fit := fit.bel (Below.drewN (Below.refl _ W3) nq)
          have hb3 := Below.drewN hb3 nq
          have z6 : (W3.drewN nq).heap[wz]? = _ := z6
          have z7 : (W3.drewN nq).heap[wz + 1]? = _ := z7
          clear q1 c1 d0 d1 d2 hFy hFy2 e80
          generalize W3.drewN nq = W4 at fit hb3 z6 z7 ⊢
          have c0 := fit.at_.c0
          have ha4 := (hb3.block _ (hwz ▸ heap_lt ha)).trans ha
          have hb4 := (hb3.block _ (hwz ▸ heap_lt hb)).trans hb
          have x0 := cell_of ha4 0
          have x1 := cell_of ha4 1
          have x2 := cell_of hb4 0
          have x3 := cell_of hb4 1
          simp at x0 x1 x2 x3
          cases ht : x.tr with
          | false =>
            exact absurd ht (by rw [hxt]; simp)
          | true =>
            simp only [ht, Bool.false_eq_true, if_false, if_true] at c0
            by_cases hi : i < 0 ∨ (x.L.length : Int) < i
            · have k3 := insc_bad W4 B x.l a b f.1 i x.K x.S (fit.at_.ti ht) (by rw [x.klen]; exact hi) x0 x2 x3
              go_wp2_with (go_at_call 25; refine k3.mono ?_; rintro e w4 ⟨rfl, hb5⟩)
              all_goals go_returns
              all_goals exact ⟨_, rfl, Z, (h.bel (hwz ▸ hb3.trans (hb5.mono (below_size hb3 hwz)))).mono (Nat.le_succ N), FG.of (hwz ▸ hb3.trans (hb5.mono (below_size hb3 hwz))) (by omega), (ins_eq2 hnf i fit.zx fit.zn ht hk hi).symm⟩
            · obtain ⟨hkk, hr⟩ := ins_keys x f i hk hi
              have k3 := insc_tree W4 B x.l a b f.1 i x.K x.S (fit.at_.ti ht) (by rw [x.klen]; have := fit.len; omega) x0 x2 x3
              rw [hr] at k3
              go_upto_region 15 with (go_at_call 25; refine k3.mono ?_; rintro e w4 ⟨rfl, S', hL, hF⟩)
              clear k3 x0 x1 x2 x3 c0 ha4 hb4
              have hLn := hL.nd
              have hlt1 := fit.gr.lt m1 (.inr (.inl rfl))
              have hlt2 := fit.gr.lt m2 (.inr (.inr (.inl rfl)))
              have hltg := fit.gr.lt g (.inl rfl)
              have hlty := fit.at_.lt x.y (.tail _ (.head _))
              have hlts := fit.at_.lt x.s (.head _)
              obtain ⟨og, om1, om2⟩ := fit.out
              have inS : ∀ k, k ∉ x.foot → k ∉ x.S := fun k hn q => hn (by simp [Sp.foot, q])
              obtain ⟨gk1, gk2⟩ := fit.gr.kinds
              have hwz6 := heap_lt z6
              have hwz7 := heap_lt z7
              have hf4 := hF.bel.size
              have y6 := (hF.keep wz hwz6 (inS _ hbx.1)).trans z6
              have y7 := (hF.keep (wz + 1) hwz7 (inS _ hbx.2)).trans z7
              have yg := (hF.keep g hltg.2 (inS _ og)).trans fit.gr.cells
              have ys := (hF.keep x.s hlts.2 fit.at_.sn).trans fit.at_.cells
              obtain ⟨Q1, hQ1, hQ1b⟩ := fit.gr.spots
              obtain ⟨w5, p5, i5, t5⟩ := P.HM.put (w := w4.drew) Try.underlying54 (hQ1.keep (hF.keep m1 hlt1.2 (inS _ om1))) (k := p) trivial (.pointer (some ⟨x.s, 0, none⟩))
              unfold P.hK at p5
              obtain ⟨d0, d1, d2⟩ := pl_cells y6
              have g0 : w4.cell? ⟨g, 0, none⟩ = some (.map (some m1)) := by rw [cell_of yg]; rfl
              go_region
              have s5 : w5.heap.size = w4.heap.size := turn_size (w := w4.drew) t5
              replace y6 := T.turn_block t5 y6 (fun _ _ q => by cases q)
              replace y7 := T.turn_block t5 y7 (fun _ _ q => by cases q)
              replace yg := T.turn_block t5 yg (fun _ _ q => by cases q)
              replace ys := T.turn_block t5 ys (fun _ _ q => by cases q)
              clear d0 d1 d2 g0 p5
              obtain ⟨ny, Fy, hFy, hFy2⟩ := fit.at_.by_
              have m1y : x.y ≠ m1 := by rintro e; exact om1 (by simp [Sp.foot, ← e])
              have m2y : x.y ≠ m2 := by rintro e; exact om2 (by simp [Sp.foot, ← e])
              obtain ⟨w6, p6, i6, t6⟩ := HM.put (w := w5.drew) Try.underlying80 (hFy.keep ((T.turn_other t5 (show x.y < w4.heap.size by omega) m1y).trans (hF.keep x.y hlty.2 fit.at_.yn))) (k := f.1) trivial (.int .i64 f.2)
              unfold hK at p6
              obtain ⟨d0, d1, d2⟩ := fd_cells y7
              have g0 : w5.cell? ⟨x.s, 1, none⟩ = some (.map (some x.y)) := by rw [cell_of ys]; rfl
              go_upto_region 16 with fail
              go_region
              have s6 : w6.heap.size = w5.heap.size := turn_size (w := w5.drew) t6
              replace y6 := T.turn_block t6 y6 (fun _ _ q => by cases q)
              replace y7 := T.turn_block t6 y7 (fun _ _ q => by cases q)
              replace yg := T.turn_block t6 yg (fun _ _ q => by cases q)
              clear d0 d1 d2 g0 p6
              obtain ⟨nf, Qf, hQf, hQf2⟩ := fit.gr.ins
              obtain ⟨w7, p7, i7, t7⟩ := F.HM.put (w := w6.drew) Try.underlying55 (hQf.keep ((T.turn_other t6 (show m2 < w5.heap.size by omega) m2y.symm).trans ((T.turn_other t5 (show m2 < w4.heap.size by omega) fit.gr.ab.symm).trans (hF.keep m2 hlt2.2 (inS _ om2))))) (k := f) trivial (pK p)
              unfold F.hK pK P.hK at p7
              obtain ⟨d0, d1, d2⟩ := fd_cells y7
              obtain ⟨d3, d4, d5⟩ := pl_cells y6
              have g0 : w6.cell? ⟨g, 1, none⟩ = some (.map (some m2)) := by rw [cell_of yg]; rfl
              go_upto_region 17 with fail
              go_region
              clear d0 d1 d2 d3 d4 d5 g0 p7
              have hB4 : B ≤ w4.heap.size := by omega
              have hb7 : Below B W4 w7 := Below.turn (Below.drew (Below.turn (Below.drew (Below.turn (Below.drew hF.bel) t5 fit.gr.aB hB4)) t6 fit.at_.yB (show B ≤ w5.heap.size by omega))) t7 fit.gr.bB (show B ≤ w6.heap.size by omega)
              have fin := Gr.put (v1 := w4.drew) (v2 := w5.drew) (v3 := w6.drew) fit f hnf hk (x.L.take i.toNat ++ f :: x.L.drop i.toNat) (fun f' => by exact mem_ins x.L f f' _) (by rw [hkk]; exact hLn) (by simp; omega) hb7 hF (fun e => by rw [ht] at e; cases e) (fun e => by rw [hkk]; exact hL) rfl t5 ⟨Q1, hQ1b, i5⟩ rfl t6 ⟨_, Fy, hFy2, i6⟩ rfl t7 ⟨_, Qf, hQf2, i7⟩
              go_wp2
              all_goals go_returns
              all_goals exact ⟨_, rfl, _, fin.1, FG.after (hwz ▸ hb3) (by omega) (by rw [hwz]; exact hxf) fin.2, (ins_eq0 hnf i _ fit.zx fit.zn ht hk hi).symm⟩
end Go.Proofs.Ythgpbbpmfpfjnaa
