/- GraphOnce: whatever the script, each node is at one place, once, and the places have them all: the statement as given. No condition. -/
import Derived.Test.YthgpbbpmfpfjnaaOX
import Derived.Deep.CutBlock
import Derived.WalkKit
import Derived.ProofKit
import Derived.OpenShut
import Derived.ShutString
namespace Go.Proofs.Ythgpbbpmfpfjnaa.graphOnce
open Go.ChangeShapes Go.WideShapes Go.ChangeAt Go.RowKit
open Go.ChangeMaps (open_string shut_string)
set_option linter.unusedVariables false
set_option linter.unusedSimpArgs false

theorem own : ownKnob Try.prog.godebug = none := by kernel_rfl
theorem hrg_bel {w w' : World} {m r n c : Nat} {F : FKey → Option Value} {ss : List FKey} (h : K.HRg w m r n F ss c) (hb : Below w.heap.size w w') : K.HRg w' m r n F ss c := by
  have h' := h
  obtain ⟨es, clock, since, seen, c0, a, b, rest⟩ := h'
  exact h.bel (hb.block m (heap_lt a)) (hb.block r (heap_lt b))
open Classical in
theorem cntT_yes {Y : Ys} {ss : List FKey} {f : FKey} (h : There Y f) : cntT Y (ss ++ [f]) = cntT Y ss + 1 := by
  unfold cntT; rw [List.filter_append]; simp [h]
open Classical in
theorem cntT_no {Y : Ys} {ss : List FKey} {f : FKey} (h : ¬ There Y f) : cntT Y (ss ++ [f]) = cntT Y ss := by
  unfold cntT; rw [List.filter_append]; simp [h]
theorem cntT_le (Y : Ys) (ss : List FKey) : cntT Y ss ≤ ss.length := by unfold cntT; exact List.length_filter_le _ _
theorem sumL_take (Y : Ys) {ts : List PKey} {i : Nat} (h : i < ts.length) : sumL Y (ts.take (i + 1)) = sumL Y (ts.take i) + lenY Y ts[i] := by
  unfold sumL
  rw [List.take_add_one, List.getElem?_eq_getElem h, List.map_append, List.sum_append]
  simp only [Option.toList, List.map_cons, List.map_nil, List.sum_cons, List.sum_nil, Nat.add_zero]
theorem sumL_le (Y : Ys) (ts : List PKey) (i : Nat) : sumL Y (ts.take i) ≤ sumL Y ts := by
  have e : sumL Y ts = sumL Y (ts.take i) + sumL Y (ts.drop i) := by
    unfold sumL
    rw [← List.sum_append, ← List.map_append, List.take_append_drop]
  omega
theorem idxP {w : World} {b : Nat} {pp : Option Addr} {cc : Nat} {ts : List PKey} (h : w.ownsRow b 28 3 (.slice pp ts.length cc) ts.length (pCells ts)) {i : Nat} (hi : i < ts.length) :
    ∃ g, (∀ W, (Instr.indexAt 48 (.slice pp ts.length cc) (.int .i64 i)).run Try.prog W = .ok (.pointer (some ⟨g, i * 3, none⟩)) W) ∧ w.cell? ⟨g, i * 3, none⟩ = some (.int .i64 ts[i].1) ∧ w.cell? ⟨g, i * 3 + 1, none⟩ = some (.int .i64 ts[i].2.1) ∧ w.cell? ⟨g, i * 3 + 2, none⟩ = some (.int .i64 ts[i].2.2) := by
  rcases h.2 with ⟨e, hz⟩ | ⟨g, cap, cur, e, _, hgb, _, _, _, ht⟩
  · omega
  · cases e
    have hc : ∀ t : Nat, t < 3 → w.cell? ⟨g, i * 3 + t, none⟩ = some ((encP ts[i])[t]!) := fun t h3 => by
      rw [cell_of hgb]
      have h1 : (cur.toList.take (ts.length * 3))[i * 3 + t]? = (pCells ts)[i * 3 + t]? := by rw [ht]
      rw [List.getElem?_take_of_lt (by omega), pCells_at ts _ (by omega), Array.getElem?_toList, show (i * 3 + t) / 3 = i by omega, show (i * 3 + t) % 3 = t by omega] at h1
      rw [h1]
      simp [List.getElem!_eq_getElem?_getD, hi]
    refine ⟨g, fun W => ?_, hc 0 (by omega), hc 1 (by omega), hc 2 (by omega)⟩
    have hi2 : (i : Int) < ts.length := by omega
    simp [go_sem, hi]
theorem cntJ_le (L : List FKey) (k : HKey) (j : Nat) : cntJ L k j ≤ j := by
  unfold cntJ
  exact Nat.le_trans List.count_le_length (by simp; omega)

set_option maxRecDepth 100000 in
set_option maxHeartbeats 16000000 in
theorem walk (p0 : Option Addr) (L0 : List St) (c0 : Nat) (w : World) (hL0 : Sts w p0 L0) :
    Calls Try.prog 3 #[.slice p0 L0.length c0] w fun e w' => e = .returned (.bool true) ∧ Below w.heap.size w w' := by
  have kw := fun W => works_any W
  by_cases hlong : 200 < L0.length
  · have d : decide ((200 : Int) < (L0.length : Int)) = true := by simp; omega
    go_enter Try.func3, Try.ntmps3
    go_wp2_with (go_at_call 7; refine (kw _).mono ?_; rintro e w3 ⟨rfl, hb⟩)
    all_goals go_returns
    exact ⟨rfl, hb⟩
  have d1 : decide ((200 : Int) < (L0.length : Int)) = false := by simp; omega
  have k1 := gnew_any w
  have hmm := @run_makeMap Try.prog
  go_enter Try.func3, Try.ntmps3
  go_upto_region 5 with (go_at_call 8; refine k1.mono ?_; rintro e w1 ⟨g, A, rfl, h1, hb1⟩)
  have hS : ¬ A w1.heap.size := fun q => by have := (h1.lt _ q).2; omega
  have hSB : w.heap.size ≤ w1.heap.size := hb1.size
  have hH : K.HM (w1.alloc (.map #[] 0)) w1.heap.size 0 (fun _ => none) := K.HM.new w1
  have hG := h1.bel ((Below.refl _ w1).alloc (Nat.le_refl _) (.map #[] 0))
  have hb0 : Below w.heap.size w (w1.alloc (.map #[] 0)) := hb1.alloc hb1.size _
  clear k1 hmm h1 hb1
  generalize w1.alloc (.map #[] 0) = w2 at hH hG hb0 ⊢
  generalize w1.heap.size = S at hS hSB hH ⊢
  generalize hB0 : w.heap.size = B at hG hb0 hSB ⊢
  replace hB0 : Hid _ := hB0
  replace hL0 : Hid _ := hL0
  go_wp2
  go_loopw [5] (fun n5 wr => ∃ (i N n : Nat) (Y : Ys) (A : Nat → Prop) (G : FKey → Option Value), n5 = .int .i64 i ∧ i ≤ L0.length ∧ N ≤ i ∧ n ≤ i ∧ Gi wr B g N Y A ∧ K.HM wr S n G ∧ (∀ f, There Y f → (G f).isSome = true) ∧ ¬ A S ∧ Below B w wr) (fun n5 _ => L0.length - (valOf n5).toNat)
  case atStart => exact ⟨0, 0, 0, _, A, _, rfl, by omega, by simp, by simp, hG, hH, (by rintro f ⟨q, y, e, _⟩; cases e), hS, hb0⟩
  case round =>
    clear hG hH hS hb0
    obtain ⟨i, N, n, Y, A, G, rfl, hi, hNi, hni, hG, hH, hT, hS, hbl⟩ := hrel
    by_cases hin : i < L0.length
    · have d : decide ((i : Int) < L0.length) = true := by simp; omega
      have e9 : IntKind.i64.wrap ((i : Int) + 1) = (i : Int) + 1 := IntWalk.i64_in _ (by omega)
      obtain ⟨xb, xo, ⟨xd, xi, xn, xp, xk, xq⟩, hxi, hsx, hxb, hxw, hai⟩ := idxS hL0.out hin
      have hbww : Below w.heap.size w wr := by rw [hB0.out]; exact hbl
      obtain ⟨r0, r1, r2, r3, r4, r5, r6, r7, r8⟩ := hsx.below hxb hbww
      simp only at r0 r1 r2 r3 r4 r5 r6 r7 r8
      have hai' := hai c0
      clear hai hxi hsx
      have hBl : B ≤ wr.heap.size := hG.size
      go_upto_region 9 with fail
      have yz := heap_alloc_new wr (.cells #[.int .i64 xd, .int .i64 xi, .int .i64 xn, .int .i64 xp.1, .int .i64 xp.2.1, .int .i64 xp.2.2, .int .i64 xk.1, .int .u64 xk.2, .bool xq] 33)
      have hGz := hG.bel ((Below.refl _ wr).alloc (Nat.le_refl _) (.cells #[.int .i64 xd, .int .i64 xi, .int .i64 xn, .int .i64 xp.1, .int .i64 xp.2.1, .int .i64 xp.2.2, .int .i64 xk.1, .int .u64 xk.2, .bool xq] 33))
      have hHz := hH.alloc (.cells #[.int .i64 xd, .int .i64 xi, .int .i64 xn, .int .i64 xp.1, .int .i64 xp.2.1, .int .i64 xp.2.2, .int .i64 xk.1, .int .u64 xk.2, .bool xq] 33)
      have hbZ : Below B w (wr.alloc (.cells #[.int .i64 xd, .int .i64 xi, .int .i64 xn, .int .i64 xp.1, .int .i64 xp.2.1, .int .i64 xp.2.2, .int .i64 xk.1, .int .u64 xk.2, .bool xq] 33)) := hbl.alloc hBl _
      have hza : ¬ A wr.heap.size := fun q => by have := (hG.lt _ q).2; omega
      have hzS : S ≠ wr.heap.size := by have := hH.lt; omega
      clear r0 r1 r2 r3 r4 r5 r6 r7 r8 hai' hG hH hbl hbww hBl
      generalize wr.alloc (.cells #[.int .i64 xd, .int .i64 xi, .int .i64 xn, .int .i64 xp.1, .int .i64 xp.2.1, .int .i64 xp.2.2, .int .i64 xk.1, .int .u64 xk.2, .bool xq] 33) = W at yz hGz hHz hbZ ⊢
      generalize wr.heap.size = z at yz hza hzS ⊢
      have z0 := (cell_of yz 0).trans (show _ = some (Value.int .i64 xd) from rfl)
      go_upto_block 2 with fail
      clear z0
      have hzz := And.intro hza hS
      go_cut [] (fun wx => ∃ (N' : Nat) (Y' : Ys) (A' : Nat → Prop), N' ≤ i + 1 ∧ Gi wx B g N' Y' A' ∧ Below B w wx ∧ wx.heap[z]? = some (.cells #[.int .i64 xd, .int .i64 xi, .int .i64 xn, .int .i64 xp.1, .int .i64 xp.2.1, .int .i64 xp.2.2, .int .i64 xk.1, .int .u64 xk.2, .bool xq] 33 (0, 0)) ∧ K.HM wx S n G ∧ ¬ A' S ∧ (∀ f, There Y' f → There Y f ∨ f = (xk, xn)))
      case first =>
        have t1 := (cell_of yz 1).trans (show _ = some (Value.int .i64 xi) from rfl)
        have t2 := (cell_of yz 2).trans (show _ = some (Value.int .i64 xn) from rfl)
        have t8 := (cell_of yz 8).trans (show _ = some (Value.bool xq) from rfl)
        have p0 := (cell_of yz 3).trans (show _ = some (Value.int .i64 xp.1) from rfl)
        have p1 := (cell_of yz 4).trans (show _ = some (Value.int .i64 xp.2.1) from rfl)
        have p2 := (cell_of yz 5).trans (show _ = some (Value.int .i64 xp.2.2) from rfl)
        have h0' := (cell_of yz 6).trans (show _ = some (Value.int .i64 xk.1) from rfl)
        have h1' := (cell_of yz 7).trans (show _ = some (Value.int .u64 xk.2) from rfl)
        have hzl := heap_lt yz
        have hSl := hHz.lt
        generalize hWW : W = WW at yz hGz hHz hbZ t1 t2 t8 p0 p1 p2 h0' h1' hzl hSl ⊢
        clear hWW
        by_cases hd0 : xd = 0
        · subst hd0
          have ka := gpush_any WW B g N Y A hGz (by omega) xp (xk, xn) xq
          have hth : ∀ f, There (pushY Y xp (xk, xn) xq).2 f → There Y f ∨ f = (xk, xn) := fun f h => there_push h
          generalize pushY Y xp (xk, xn) xq = R at ka hth
          obtain ⟨r, Y'⟩ := R
          simp only [pK, P.hK, hK2] at ka hth
          go_wp2_with (go_at_call 9; go_loud (refine ka.mono ?_; rintro e v1 ⟨rfl, A', ha', fa⟩))
          all_goals go_meet
          all_goals exact ⟨N + 1, Y', A', by omega, ha', hbZ.trans fa.bel, (fa.keep z hzl hzz.1).trans yz, hHz.keep (fa.keep S hSl hzz.2), fun q => (fa.sub S q).elim hzz.2 (fun c => by omega), hth⟩
        by_cases hd2 : xd = 2
        · subst hd2
          have ka := gins_any WW B g N Y A hGz (by omega) xp xi (xk, xn)
          have hth : ∀ f, There (insY Y xp xi (xk, xn)).2 f → There Y f ∨ f = (xk, xn) := fun f h => there_ins h
          generalize insY Y xp xi (xk, xn) = R at ka hth
          obtain ⟨r, Y'⟩ := R
          simp only [pK, P.hK, hK2] at ka hth
          go_wp2_with (go_at_call 10; go_loud (refine ka.mono ?_; rintro e v1 ⟨rfl, A', ha', fa⟩))
          all_goals go_meet
          all_goals exact ⟨N + 1, Y', A', by omega, ha', hbZ.trans fa.bel, (fa.keep z hzl hzz.1).trans yz, hHz.keep (fa.keep S hSl hzz.2), fun q => (fa.sub S q).elim hzz.2 (fun c => by omega), hth⟩
        by_cases hd1 : xd = 1
        · subst hd1
          have ka := gpop_any WW B g N Y A hGz xp xq
          have hth : ∀ f, There (popY Y xp xq) f → There Y f ∨ f = (xk, xn) := fun f h => .inl (there_pop h)
          generalize popY Y xp xq = Y' at ka hth
          generalize (peekY Y xp xq).isSome = bs at ka
          generalize (peekY Y xp xq).map Prod.fst = pk at ka
          rw [oV_eq] at ka
          simp only [pK, P.hK, hK2] at ka
          go_wp2_with (go_at_call 11; go_loud (refine ka.mono ?_; rintro e v1 ⟨rfl, A', ha', fa⟩))
          all_goals go_meet
          all_goals exact ⟨N, Y', A', by omega, ha', hbZ.trans fa.bel, (fa.keep z hzl hzz.1).trans yz, hHz.keep (fa.keep S hSl hzz.2), fun q => (fa.sub S q).elim hzz.2 (fun c => by omega), hth⟩
        by_cases hd3 : xd = 3
        · subst hd3
          have ka := grem_any WW B g N Y A hGz xp (xk, xn)
          have hth : ∀ f, There (remY Y xp (xk, xn)).2 f → There Y f ∨ f = (xk, xn) := fun f h => .inl (there_rem h)
          generalize remY Y xp (xk, xn) = R at ka hth
          obtain ⟨r, Y'⟩ := R
          simp only [pK, P.hK, hK2] at ka hth
          go_wp2_with (go_at_call 12; go_loud (refine ka.mono ?_; rintro e v1 ⟨rfl, A', ha', fa⟩))
          all_goals go_meet
          all_goals exact ⟨N, Y', A', by omega, ha', hbZ.trans fa.bel, (fa.keep z hzl hzz.1).trans yz, hHz.keep (fa.keep S hSl hzz.2), fun q => (fa.sub S q).elim hzz.2 (fun c => by omega), hth⟩
        by_cases hd4 : xd = 4
        · subst hd4
          have ka := gdrain_any WW B g N Y A hGz (by omega) xp
          have hth : ∀ f, There (updY Y xp none) f → There Y f ∨ f = (xk, xn) := fun f h => .inl (there_none h)
          generalize updY Y xp none = Y' at ka hth
          simp only [pK, P.hK, hK2] at ka
          go_wp2_with (go_at_call 13; go_loud (refine ka.mono ?_; rintro e v1 ⟨v, A', rfl, _, ha', fa, _⟩))
          all_goals go_meet
          all_goals exact ⟨N, Y', A', by omega, ha', hbZ.trans fa.bel, (fa.keep z hzl hzz.1).trans yz, hHz.keep (fa.keep S hSl hzz.2), fun q => (fa.sub S q).elim hzz.2 (fun c => by omega), hth⟩
        have b0 : (xd == 0) = false := beq_false_of_ne hd0
        have b1 : (xd == 1) = false := beq_false_of_ne hd1
        have b2 : (xd == 2) = false := beq_false_of_ne hd2
        have b3 : (xd == 3) = false := beq_false_of_ne hd3
        have b4 : (xd == 4) = false := beq_false_of_ne hd4
        go_wp2
        all_goals go_meet
        all_goals exact ⟨N, Y, A, by omega, hGz, hbZ, yz, hHz, hzz.2, fun f h => .inl h⟩
      case rest =>
          obtain ⟨N', Y', A', hN', hG1, hb1, yz1, hH1, hS1, hth⟩ := hcut
          clear hGz hHz hbZ yz hza hzz
          have t2 := (cell_of yz1 2).trans (show _ = some (Value.int .i64 xn) from rfl)
          have h0' := (cell_of yz1 6).trans (show _ = some (Value.int .i64 xk.1) from rfl)
          have h1' := (cell_of yz1 7).trans (show _ = some (Value.int .u64 xk.2) from rfl)
          obtain ⟨W2, q2, i2, s2⟩ := K.HM.put Try.underlying26 hH1 (k := (xk, xn)) trivial (.int .i64 1)
          have hG2 : Gi W2 B g N' Y' A' := hG1.keep fun k hk => s2.grown.block k (hG1.lt k hk).2 (by rintro e; cases e; exact hS1 hk)
          have hb2 : Below B w W2 := hb1.grown s2.grown hG1.size (fun k e => by cases e; exact hSB)
          have hT2 : ∀ f, There Y' f → ((K.updH G (xk, xn) (some (.int .i64 1))) f).isSome = true := fun f hf => by
            unfold K.updH
            split
            · rfl
            · rcases hth f hf with h | h
              · exact hT f h
              · contradiction
          generalize K.updH G (xk, xn) (some (.int .i64 1)) = G' at i2 hT2
          simp only [K.hK] at q2
          clear hth hT hH1 hG1 hb1
          go_upto_region 21 with fail
          clear q2 s2 t2 h0' h1' yz1
          go_wp2_with (at_range; refine K.l_range _ rfl _ 26 3 rfl Try.underlying26 rfl i2 ?_; intro w3 c3 hrg hc3 hg3 hs3)
          have hG3 : Gi w3 B g N' Y' A' := hG2.keep fun k hk => hg3.block k (hG2.lt k hk).2 (by simp)
          have hb3 : Below B w w3 := hb2.grown hg3 hG2.size (fun k e => by cases e)
          have hnr : ¬ A' W2.heap.size := fun q => by have := (hG2.lt _ q).2; omega
          have hrB : B ≤ W2.heap.size := hG2.size
          clear hG2 hb2 hg3 hs3 i2
          generalize W2.heap.size = r at hrg hnr hrB ⊢
          go_loopw [7] (fun n7 wx => ∃ (ss : List FKey) (cnt : Nat), n7 = .int .i64 (cntT Y' ss) ∧ K.HRg wx S r (n + 1) G' ss cnt ∧ ss.length + cnt ≤ n + 1 ∧ Gi wx B g N' Y' A' ∧ Below B w wx) (fun _ wx => wx.rangeLeft S r)
          case atStart => exact ⟨[], c3, by simp [cntT], hrg, by simpa using hc3, hG3, hb3⟩
          case round =>
            clear hG3 hb3 hrg
            obtain ⟨ss, cnt, rfl, hrg, hsc, hG3, hb3⟩ := hrel
            go_wp2_with (at_next; refine K.l_next _ rfl _ rfl rfl hrg ?_ ?_)
            · intro hc0 hl0
              have hOne := hG3.oneP
              have hnd := hrg.nodup
              have hcl := cntT_le Y' ss
              have hss : ∀ f, There Y' f → f ∈ ss := fun f h => (hl0 f.1.1 f.1.2 f.2).2 (hT2 f h)
              have kP := gplaces_any wr B g N' Y' A' hG3 (by omega)
              go_upto_region 38 with (go_at_call 17; go_loud (refine kP.mono ?_; rintro e w6 ⟨v, ts, rfl, hPl, htl, hrow, hb6⟩))
              have hsum := cnt_sum hOne hPl hnd hss
              have hG6 := hG3.bel hb6
              have hb7 := hb3.trans (hb6.mono hG3.size)
              have hrl := hG3.size
              obtain ⟨pp, cc, rfl⟩ := own_shape hrow
              replace hrg := hrg_bel hrg hb6
              have hHf : K.HM w6 S (n + 1) G' := by
                obtain ⟨es, c, _, _, _, h1, _, h3, h4, h5, h6, _⟩ := hrg
                exact ⟨es, c, h1, h3, h4, h5, h6⟩
              clear hrg kP hb6 hG3 hb3 hl0 hss
              generalize wr.heap.size + 1 = rb at hrow
              go_wp2
              go_loopw [7, 16] (fun n7 n16 wx => ∃ i2 : Nat, n16 = .int .i64 i2 ∧ n7 = .int .i64 ((cntT Y' ss : Int) - sumL Y' (ts.take i2)) ∧ i2 ≤ ts.length ∧ Gi wx B g N' Y' A' ∧ K.HM wx S (n + 1) G' ∧ wx.ownsRow rb 28 3 (.slice pp ts.length cc) ts.length (pCells ts) ∧ Below B w wx) (fun _ n16 _ => ts.length - (valOf n16).toNat)
              case atStart => exact ⟨0, rfl, by simp [sumL], by omega, hG6, hHf, hrow, hb7⟩
              case round =>
                clear hG6 hHf hrow hb7
                obtain ⟨i2, rfl, rfl, hi2, hG6, hHf, hrow, hb7⟩ := hrel
                by_cases hil : i2 < ts.length
                · have dl : decide ((i2 : Int) < (ts.length : Int)) = true := by simpa using hil
                  obtain ⟨gb, hix, c1, c2, c3⟩ := idxP hrow hil
                  have kL := gi_len wr B g N' Y' A' hG6 ts[i2]
                  have hsu := sumL_take Y' hil
                  have hsl := sumL_le Y' ts (i2 + 1)
                  generalize ts[i2] = p at c1 c2 c3 kL hsu
                  simp only [pK, P.hK] at kL
                  have e7 : IntKind.i64.wrap ((cntT Y' ss : Int) - sumL Y' (ts.take i2) - lenY Y' p) = (cntT Y' ss : Int) - sumL Y' (ts.take i2) - lenY Y' p := IntWalk.i64_in _ (by omega)
                  have e8 : IntKind.i64.wrap ((i2 : Int) + 1) = (i2 : Int) + 1 := IntWalk.i64_in _ (by omega)
                  go_wp2_with (go_at_call 15; go_loud (refine kL.mono ?_; rintro e v1 ⟨rfl, hv1⟩))
                  refine ⟨⟨i2 + 1, by simp, by rw [hsu]; congr 1; omega, by omega, hG6.bel hv1, hHf.keep (hv1.block _ hHf.lt), row_kept hrow (fun k hk => hv1.block k (hrow.lt k hk).2), hb7.trans (hv1.mono hG6.size)⟩, ?_⟩
                  simp only [valOf]; omega
                · have dl : decide ((i2 : Int) < (ts.length : Int)) = false := by simp; omega
                  have hit : ts.take i2 = ts := by rw [List.take_of_length_le (by omega)]
                  have e0 : (cntT Y' ss : Int) - sumL Y' (ts.take i2) = 0 := by rw [hit]; omega
                  rw [e0]
                  go_wp2
                  exact ⟨⟨i + 1, N', n + 1, Y', A', G', by simp, by omega, by omega, by omega, hG6, hHf, hT2, hS1, hb7⟩, by simp [valOf]; omega⟩
            · intro f1 f2 f3 v w4 cnt4 hFf hnf hrg4 hlt4 hg4 hs4 hen
              obtain ⟨f, hf⟩ : ∃ f : FKey, f = ((f1, f2), f3) := ⟨_, rfl⟩
              have hen' : (Instr.entry (.pointer (some ⟨r, 0, none⟩))).run Try.prog w4 = .ok (.tuple #[.agg #[.int .i64 f1, .int .u64 f2, .int .i64 f3], v]) w4 := hen
              clear hen
              rw [← hf] at hFf hnf hrg4
              have hG4 : Gi w4 B g N' Y' A' := hG3.keep fun k hk => hg4.block k (hG3.lt k hk).2 (by rintro e; cases e; exact hnr hk)
              have hb4 : Below B w w4 := hb3.grown hg4 hG3.size (fun k e => by cases e; exact hrB)
              have hle := hrg.left_eq
              clear hrg hG3 hb3 hg4 hs4
              go_upto_region 25 with fail
              have yn := heap_alloc_new w4 (.cells #[.int .i64 f1, .int .u64 f2, .int .i64 f3] 43)
              have hrg5 := hrg4.walks (KeepsWalks.alloc w4 (.cells #[.int .i64 f1, .int .u64 f2, .int .i64 f3] 43))
              have hG5 := hG4.alloc' (.cells #[.int .i64 f1, .int .u64 f2, .int .i64 f3] 43)
              have hb5 := hb4.alloc hG4.size (.cells #[.int .i64 f1, .int .u64 f2, .int .i64 f3] 43)
              clear hrg4 hG4 hb4 hen'
              generalize w4.alloc (.cells #[.int .i64 f1, .int .u64 f2, .int .i64 f3] 43) = w5 at yn hrg5 hG5 hb5 ⊢
              generalize w4.heap.size = yb at yn ⊢
              have x0 := (cell_of yn 0).trans (show _ = some (Value.int .i64 f1) from rfl)
              have x1 := (cell_of yn 1).trans (show _ = some (Value.int .u64 f2) from rfl)
              have x2 := (cell_of yn 2).trans (show _ = some (Value.int .i64 f3) from rfl)
              obtain ⟨p, b, hpb, kIn⟩ := gi_in w5 B g N' Y' A' hG5 ((f1, f2), f3)
              simp only [pK, P.hK, hK2] at kIn
              rcases hpb with ⟨rfl, y', hy, hfy⟩ | ⟨rfl, hp0, hnt⟩
              · go_upto_region 26 with (go_at_call 14; go_loud (refine kIn.mono ?_; rintro e w6 ⟨rfl, hb6⟩))
                have hb7 := hb6.alloc hb6.size (.cells #[.int .i64 p.1, .int .i64 p.2.1, .int .i64 p.2.2] 28)
                have yn := (hb7.block _ (heap_lt yn)).trans yn
                have yp := heap_alloc_new w6 (.cells #[.int .i64 p.1, .int .i64 p.2.1, .int .i64 p.2.2] 28)
                have hG6 := hG5.bel hb7
                have hrg6 := hrg_bel hrg5 hb7
                have hbw := hb5.trans (hb7.mono hG5.size)
                clear kIn hb6 hb7 x0 x1 x2 hrg5 hG5 hb5
                generalize w6.alloc (.cells #[.int .i64 p.1, .int .i64 p.2.1, .int .i64 p.2.2] 28) = w7 at yn yp hG6 hrg6 hbw ⊢
                generalize w6.heap.size = yq at yp ⊢
                have hcl := cntT_le Y' ss
                have e7 : IntKind.i64.wrap ((cntT Y' ss : Int) + 1) = (cntT Y' ss : Int) + 1 := IntWalk.i64_in _ (by omega)
                go_wp2
                go_loopw [11, 12] (fun n11 n12 wy => ∃ j : Nat, n12 = .int .i64 j ∧ n11 = .int .i64 (cntJ y'.2 (f1, f2) j) ∧ j ≤ y'.2.length ∧ wy.heap[yb]? = some (.cells #[.int .i64 f1, .int .u64 f2, .int .i64 f3] 43 (0, 0)) ∧ wy.heap[yq]? = some (.cells #[.int .i64 p.1, .int .i64 p.2.1, .int .i64 p.2.2] 28 (0, 0)) ∧ K.HRg wy S r (n + 1) G' (ss ++ [f]) cnt4 ∧ Gi wy B g N' Y' A' ∧ Below B w wy) (fun _ n12 _ => y'.2.length - (valOf n12).toNat)
                case atStart => exact ⟨0, rfl, by simp [cntJ], by omega, yn, yp, hrg6, hG6, hbw⟩
                case round =>
                  clear yn yp hrg6 hG6 hbw
                  obtain ⟨j, rfl, rfl, hj, yn, yp, hrg6, hG6, hbw⟩ := hrel
                  have hcj := cntJ_le y'.2 (f1, f2) j
                  obtain ⟨p0, p1, p2⟩ := pl_cells (p := p) yp
                  have hll : lenY Y' p = y'.2.length := by simp [lenY, hy]
                  have hNl := hG6.len p
                  rw [hll] at hNl
                  have kL := gi_len wr B g N' Y' A' hG6 p
                  rw [hll] at kL
                  simp only [pK, P.hK] at kL
                  by_cases hjl : j < y'.2.length
                  · have dl : decide ((j : Int) < (y'.2.length : Int)) = true := by simpa using hjl
                    have e10 : IntKind.i64.wrap ((j : Int) + 1) = (j : Int) + 1 := IntWalk.i64_in _ (by omega)
                    have e11 : IntKind.i64.wrap ((cntJ y'.2 (f1, f2) j : Int) + 1) = (cntJ y'.2 (f1, f2) j : Int) + 1 := IntWalk.i64_in _ (by omega)
                    go_upto_region 32 with (go_at_call 15; go_loud (refine kL.mono ?_; rintro e v1 ⟨rfl, hv1⟩))
                    have hG7 := hG6.bel hv1
                    have hrg7 := hrg_bel hrg6 hv1
                    have hb7 := hbw.trans (hv1.mono hG6.size)
                    have yn := (hv1.block _ (heap_lt yn)).trans yn
                    have yp := (hv1.block _ (heap_lt yp)).trans yp
                    obtain ⟨p0, p1, p2⟩ := pl_cells (p := p) yp
                    have kA := gi_at v1 B g N' Y' A' hG7 p (by omega) j
                    have hat : atY Y' p (j : Int) = some (y'.2[j]'hjl) := by simp [atY, hy, hjl]
                    have hcs := cntJ_succ (k := (f1, f2)) (List.getElem?_eq_getElem hjl)
                    rw [hat] at kA
                    generalize y'.2[j]'hjl = h at kA hcs
                    simp only [Option.map_some, Option.isSome_some, oV_eq, o1, Go.Proofs.Ythgpbbpmfpfjnaa.o2, pK, P.hK] at kA
                    clear kL hG6 hrg6 hbw hv1
                    go_upto_region 33 with (go_at_call 16; go_loud (refine kA.mono ?_; rintro e v2 ⟨rfl, hv2⟩))
                    have hv3 := hv2.alloc hv2.size (.cells #[.int .i64 h.1.1, .int .u64 h.1.2] 31)
                    have hG8 := hG7.bel hv3
                    have hrg8 := hrg_bel hrg7 hv3
                    have hb8 := hb7.trans (hv3.mono hG7.size)
                    have yn := (hv3.block _ (heap_lt yn)).trans yn
                    have yp := (hv3.block _ (heap_lt yp)).trans yp
                    have yh := heap_alloc_new v2 (.cells #[.int .i64 h.1.1, .int .u64 h.1.2] 31)
                    clear kA hG7 hrg7 hb7 hv2 hv3 p0 p1 p2
                    generalize v2.alloc (.cells #[.int .i64 h.1.1, .int .u64 h.1.2] 31) = v3 at hG8 hrg8 hb8 yn yp yh ⊢
                    generalize v2.heap.size = yk at yh ⊢
                    have x0 := (cell_of yn 0).trans (show _ = some (Value.int .i64 f1) from rfl)
                    have x1 := (cell_of yn 1).trans (show _ = some (Value.int .u64 f2) from rfl)
                    obtain ⟨a0, a1⟩ := hd_cells (k := h.1) yh
                    have nq := fun W => eqlH h.1.1 f1 h.1.2 f2 W
                    by_cases e : h.1 = (f1, f2)
                    · have eb : (h.1.1 == f1 && (h.1.2 : Int) == (f2 : Int)) = true := by rw [e]; simp
                      rw [if_pos e] at hcs
                      simp only [eb] at nq
                      go_wp2
                      refine ⟨⟨j + 1, by simp, by rw [hcs]; simp, by omega, yn, yp, hrg8, hG8, hb8⟩, ?_⟩
                      simp only [valOf]; omega
                    · have eb : (h.1.1 == f1 && (h.1.2 : Int) == (f2 : Int)) = false := by
                        rw [Bool.eq_false_iff]
                        intro q
                        simp at q
                        exact e (Prod.ext q.1 (by have := q.2; omega))
                      rw [if_neg e] at hcs
                      simp only [eb] at nq
                      go_wp2
                      refine ⟨⟨j + 1, by simp, by rw [hcs]; simp, by omega, yn, yp, hrg8, hG8, hb8⟩, ?_⟩
                      simp only [valOf]; omega
                  · have dl : decide ((j : Int) < (y'.2.length : Int)) = false := by simp; omega
                    have hj1 : j = y'.2.length := by omega
                    have hc1 : cntJ y'.2 (f1, f2) j = 1 := by rw [hj1]; exact cntJ_all (hG6.oneP.nd p y' hy) hfy
                    rw [hc1]
                    have hth : There Y' f := hf ▸ ⟨p, y', hy, hfy⟩
                    go_wp2_with (go_at_call 15; go_loud (refine kL.mono ?_; rintro e v1 ⟨rfl, hv1⟩))
                    have hrg7 := hrg_bel hrg6 hv1
                    refine ⟨⟨ss ++ [f], cnt4, by rw [cntT_yes hth]; simp, hrg7, by simp; omega, hG6.bel hv1, hbw.trans (hv1.mono hG6.size)⟩, ?_⟩
                    rw [hrg7.left_eq, hle]; exact hlt4
              · go_wp2_with (go_at_call 14; go_loud (refine kIn.mono ?_; rintro e w6 ⟨rfl, hb6⟩))
                have hb7 := hb6.alloc hb6.size (.cells #[.int .i64 0, .int .i64 0, .int .i64 0] 28)
                have hrg7 := hrg_bel hrg5 hb7
                refine ⟨⟨ss ++ [f], cnt4, by rw [cntT_no (hf ▸ hnt)], hrg7, by simp; omega, hG5.bel hb7, hb5.trans (hb7.mono hG5.size)⟩, ?_⟩
                rw [hrg7.left_eq, hle]; exact hlt4

    · have d : decide ((i : Int) < L0.length) = false := by simp; omega
      have hend : Below w.heap.size w wr := by rw [hB0.out]; exact hbl
      go_wp2_with (go_at_call 7; refine (kw _).mono ?_; rintro e v1 ⟨rfl, hv1⟩)
      all_goals go_returns
      exact ⟨rfl, hend.trans (hv1.mono hend.size)⟩

theorem readable : ∀ t ∈ Try.f3.params.toList, Try.prog.readableRec t = true ∧ t < Try.prog.types.size := by
  rw [Try.params3]
  intro t ht
  simp at ht
  rcases ht with rfl
  all_goals exact ⟨by kernel_rfl, of_decide_eq_true (by kernel_rfl)⟩
set_option maxRecDepth 100000 in
theorem lifted (os : Os) (started : os.Started) (H : Type) (enc : TypeId × Value → H) :
    ReturnsInHanded {} Try.checked os 3 .any (Rows.graphOnceSpec.pre6 enc Try.prog Try.f3 Rows.graphOnceRow.domain false) (Rows.graphOnceSpec.post enc Try.prog Try.f3 false true false false) := by
  refine returnsInHanded_of_change (C := Try.checked) own started (by kernel_rfl) Try.func3
    (ChangeSpec.witness6 (enc := enc) (C := Try.checked) false ⟨#[], #[.slice none 0 0], []⟩ 8 (by kernel_rfl) (by kernel_rfl) (by kernel_rfl) (by kernel_rfl)) ?_
  intro W base args ds gs before hval0 hW hcnd _
  have hval : ∀ (j : Nat) t v, Try.f3.params[j]? = some t → args[j]? = some v → Value.okWide Try.prog W .any base t v := hval0
  have hW' := hW
  obtain ⟨p, q, hA0, hV, rfl, hfz, hnd⟩ := hW
  have hA : DataW.TrodAll enc Try.prog W 0 (fun _ => true) true Try.f3.params.toList args.toList ds p := hA0
  rw [Try.params3] at hA hval
  obtain ⟨v0, vs0, d0, ds0, p0, q0, hargs, rfl, rfl, h0, r0⟩ := trodAll_cons hA
  obtain ⟨rfl, rfl, rfl⟩ := trodAll_nil r0
  obtain rfl : args = #[v0] := by cases args; simp_all
  obtain ⟨rfl, rfl⟩ := trodVars_none hV
  obtain ⟨p0, L0, c0, rfl, hL0⟩ := open_sts (hval 0 22 v0 rfl rfl) h0
  clear hA0 hval0
  refine (walk p0 L0 c0 W hL0).mono fun e W' ⟨he, hg⟩ => ?_
  subst he
  exact ⟨_, rfl, post_bel readable hW' rfl (fun _ _ _ => (trodAll_cons_mk (shut_bool Try.underlying4 _) trodAll_mk0)) rfl (fun _ => rfl)
    hg (ok_one (by kernel_rfl) rfl (okWide_bool_mk Try.underlying4 _))⟩

theorem over : Rows.graphOnceRow.holds Try.pinned (OpenSpec.ofChange Rows.graphOnceSpec) :=
  OpenClaim.holds_of_wide 3 Try.f3 rfl rfl rfl rfl rfl rfl rfl ⟨rfl, rfl, rfl, rfl, rfl⟩ rfl rfl rfl rfl rfl (by kernel_rfl) Try.func3 (by kernel_rfl)
    (of_decide_eq_true (by kernel_rfl)) (by unfold Func.isWrapper; first | (rw [if_pos (by decide +kernel)]; kernel_rfl) | (rw [if_neg (by decide +kernel)]; exact ⟨rfl, rfl⟩))
    (fun os started H enc _ => lifted os started H enc)

theorem proved : Rows.GraphOnceSaid :=
  over
end Go.Proofs.Ythgpbbpmfpfjnaa.graphOnce
namespace Go.Proofs.Ythgpbbpmfpfjnaa
theorem graphOnce_holds : Rows.GraphOnceSaid :=
  graphOnce.proved
#print axioms graphOnce_holds
end Go.Proofs.Ythgpbbpmfpfjnaa
