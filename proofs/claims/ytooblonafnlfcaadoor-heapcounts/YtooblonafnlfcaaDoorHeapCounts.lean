/- HeapCounts (the theorem of stage 14): an object's count is how often it was held, once at first, less how often it was dropped; none is freed that is held; and a handle of one that was freed tells nothing more (P14.3), for every room, every script: the statement as given, its table of classes tied to the text of the program. No condition beside those of the card itself. -/
import Derived.Test.YtooblonafnlfcaaDoorPI
import Derived.Deep.CutBlock
import Derived.Test.YtooblonafnlfcaaDoorCards
import Derived.Test.YtooblonafnlfcaaDoorTie
import Derived.WalkKit
import Derived.ProofKit
import Derived.OpenShut
import Derived.ShutString
import Derived.SevenTiedAt
namespace Go.Proofs.YtooblonafnlfcaaDoor.heapCounts
open Go.ChangeShapes Go.WideShapes Go.ChangeAt Go.RowKit
set_option linter.unusedVariables false
set_option linter.unusedSimpArgs false
theorem own : ownKnob Tryd.prog.godebug = none := by kernel_rfl
open H
set_option maxRecDepth 100000 in
set_option maxHeartbeats 16000000 in
theorem walk (a0 : Int) (p1 : Option Addr) (L1 : List Sp) (c1 : Nat) (w : World) (hT : Tab w) (h0 : 0 < w.heap.size) (w0 : (Lit.int .u16 a0).wf = true) (hL1 : Sps w p1 L1) :
    Calls Tryd.prog 4 #[.int .u16 a0, .slice p1 L1.length c1] w fun e w' => e = .returned (.bool true) ∧ Below w.heap.size w w' := by
  have hroom := wf_u16' w0
  obtain ⟨i34, hi34, hzi0, hzi1, hzi2⟩ := info_parts info34
  have kh := heavy_any w p1 L1 c1 hL1
  have hmm := @run_makeMap Tryd.prog
  have kN := hnew_any (Yo := fun _ => False) a0 (by omega) w (by simp)
  have k9 := fun W hT h0 => hworks_any W hT h0
  by_cases hlen : L1.length ≤ 250
  case neg =>
    replace kh : Calls Tryd.prog 8 #[.slice p1 L1.length c1] w fun e w' => e = .returned (.bool true) ∧ w' = w := kh.mono fun e w' ⟨⟨b, e1, e2⟩, e3⟩ => by
      rcases e2 with e2 | rfl
      · exact absurd e2 hlen
      · exact ⟨e1, e3⟩
    have k9' := k9 w hT h0
    go_enter Tryd.func4, Tryd.ntmps4
    go_wp2_with (first | (go_at_call 8; refine kh.mono ?_; rintro e w' ⟨rfl, hw⟩; rw [hw]; clear hw) | (go_at_call 9; refine k9'.mono ?_; rintro e w3 ⟨rfl, hb⟩))
    all_goals go_returns
    exact ⟨rfl, hb⟩
  case pos =>
  go_enter Tryd.func4, Tryd.ntmps4
  go_upto_if 24 with (go_at_call 8; refine kh.mono ?_; rintro e w' ⟨⟨hv, rfl, -⟩, hw⟩; rw [hw]; clear hw)
  cases hv with
  | true =>
    have k9' := k9 w hT h0
    go_wp2_with (go_at_call 9; refine k9'.mono ?_; rintro e w3 ⟨rfl, hb⟩)
    all_goals go_returns
    exact ⟨rfl, hb⟩
  | false =>
  generalize hB0 : w.heap.size = B at kN h0
  go_upto_region 7 with (go_at_call 10; refine kN.mono ?_; rintro e wa ⟨q, rfl, hpa, hba⟩)
  have hbn : Below wa.heap.size wa (wa.alloc (.map #[] 0)) := (Below.refl _ wa).alloc (Nat.le_refl _) _
  have hHb : Hc (wa.alloc (.map #[] 0)) B q wa.heap.size a0 0 (fun _ => 0) (fun _ => none) 0 (fun _ => 0) (fun _ => 0) 0 [] (.slice none 0 0) := by
    have hm := hpa.tb.nm
    have hi := hpa.ow.im.lt
    have hs := hpa.size
    exact ⟨hpa.kept hbn, ⟨0, _, HM.new wa, fun s g => by simp [cvM, getM_none, cvO]⟩, ⟨rfl, .inl ⟨rfl, rfl⟩⟩, by omega, by omega, by omega, hs, by simp, (hT.gr h0 hba).gr (B := wa.heap.size) (by omega) hbn⟩
  have hbl : Below B w (wa.alloc (.map #[] 0)) := hba.alloc hpa.size _
  clear kN kh hpa hba hbn hmm
  generalize wa.alloc (.map #[] 0) = wb at hHb hbl ⊢
  generalize wa.heap.size = mc at hHb ⊢
  have hR1 : Hid (Sps w p1 L1) := hL1
  clear hL1
  replace hB0 : Hid _ := hB0
  go_wp2
  go_loopw [8, 9] (fun n8 n9 wr => ∃ (i : Nat) (used : Int) (N : Int → Nat) (M : MJ) (ns : Nat) (A K : Nat → Nat) (X : List HKey) (p : Option Addr) (c : Nat), n9 = .int .i64 i ∧ n8 = .slice p X.length c ∧ i ≤ L1.length ∧ Hc wr B q mc a0 used N M ns A K i X (.slice p X.length c) ∧ Below B w wr) (fun _ n9 _ => L1.length - (valOf n9).toNat)
  case atStart => exact ⟨0, 0, _, _, 0, _, _, [], none, 0, rfl, rfl, by omega, hHb, hbl⟩
  case round =>
    obtain ⟨i, used, N, M, ns, A, K, X, p, c, rfl, rfl, hi, hH, hbl⟩ := hrel
    have hwr := hH.hp.size
    by_cases hin : i < L1.length
    · have dA : decide ((i : Int) < L1.length) = true := by simp; omega
      have e9 : IntKind.i64.wrap ((i : Int) + 1) = (i : Int) + 1 := IntWalk.i64_in _ (by omega)
      obtain ⟨xb, xo, x, hxL, hxo, hxa, hxb, hix⟩ := idx36n hR1.out hin
      obtain ⟨q0, q1, q2, q3, q4, q5, q6, q7⟩ := hxa.below hbl (by have := hB0.out; omega)
      have hix' := hix c1
      go_upto_region 12 with fail
      have hz1 := heap_alloc_new wr (.cells (spC x) 36)
      have hbn : Below wr.heap.size wr (wr.alloc (.cells (spC x) 36)) := (Below.refl _ wr).alloc (Nat.le_refl _) _
      have hbl1 : Below B w (wr.alloc (.cells (spC x) 36)) := hbl.alloc hwr _
      have hH0 := hH.hp.kept hbn
      have hH1 := hH.kept hbn h0 (show i ≤ i + 1 by omega) (by omega)
      clear q0 q1 q2 q3 q4 q5 q6 q7 hix hix' hxa hbn
      generalize hW1 : wr.alloc (.cells (spC x) 36) = W1 at hz1 hH0 hH1 hbl1
      simp only [spC] at hW1
      simp only [hW1]
      generalize wr.heap.size = z1 at hz1 ⊢
      have c0 : W1.cell? ⟨z1, 0, none⟩ = some (.int .i64 x.d) := by rw [cell_of hz1]; rfl
      have c2 : W1.cell? ⟨z1, 2, none⟩ = some (.int .i64 x.k) := by rw [cell_of hz1]; rfl
      have c4 : W1.cell? ⟨z1, 4, none⟩ = some (.int .i64 x.n) := by rw [cell_of hz1]; rfl
      by_cases hd0 : x.d = 0
      · rw [hd0] at c0
        by_cases hcz : clsM x.n = 0
        · have kM := make_bad W1 _ _ _ _ _ _ _ _ _ _ hH1.hp hH1.tab h0 x.k x.n hcz
          unfold H.hdV at kM
          go_wp2_with (go_at_call 13; refine kM.mono ?_; rintro e v1 ⟨rfl, hb1⟩)
          exact ⟨⟨i + 1, used, N, M, ns, A, K, X, p, c, by simp, rfl, by omega, hH1.kept (hb1.alloc hb1.size _) h0 (Nat.le_refl _) (by omega), (hbl1.trans (hb1.mono hH1.hp.size)).alloc (Nat.le_trans hH1.hp.size hb1.size) _⟩, by simp [valOf]; omega⟩
        have hcp : 0 < clsM x.n := by have := (clsM_bd x.n).1; omega
        have hn1 : 1 ≤ x.n ∧ x.n ≤ 128 := by have := clsM_pos x.n; rw [decide_eq_true hcp] at this; exact of_decide_eq_true this.symm
        by_cases hfull : a0 < used + clsM x.n
        · have kM := make_full W1 _ _ _ _ _ _ _ _ _ _ hH1.hp hH1.tab h0 x.k x.n hcp hfull
          unfold H.hdV at kM
          go_wp2_with (go_at_call 13; refine kM.mono ?_; rintro e v1 ⟨rfl, hp1, hF1⟩)
          obtain ⟨hm1, hr1, ht1⟩ := hH1.side hF1 h0
          have hH2 : Hc v1 B q mc a0 used N M ns A K (i + 1) X (.slice p X.length c) := ⟨hp1, hm1, hr1, hH1.n1, hH1.n2, hH1.n3, hH1.mB, hH1.len, ht1⟩
          have hbn : Below v1.heap.size v1 (v1.alloc (.cells #[.int .i64 0, .int .u64 0] 34)) := (Below.refl _ v1).alloc (Nat.le_refl _) _
          exact ⟨⟨i + 1, used, N, M, ns, A, K, X, p, c, by simp, rfl, by omega, hH2.kept hbn h0 (Nat.le_refl _) (by omega), (hbl1.trans hF1.bel).alloc hp1.size _⟩, by simp [valOf]; omega⟩
        · obtain ⟨sz, hsz⟩ : ∃ sz : Nat, x.n = (sz : Int) := ⟨x.n.toNat, by omega⟩
          rw [hsz] at c4
          have kM := hmake_ok W1 _ _ _ _ _ _ _ _ _ _ hH0 hH1.tab h0 x.k sz (by omega) (by rw [← hsz]; omega) (by omega)
          unfold H.hdV at kM
          replace hsz : Hid _ := hsz
          go_upto_region 14 with (go_at_call 13; refine kM.mono ?_; rintro e v1 ⟨k, rfl, hMk, -, ⟨ns', A', K', hp1⟩, hF1⟩)
          obtain ⟨⟨kk, F, hm1, hFm⟩, hr1, ht1⟩ := hH1.side hF1 h0
          obtain ⟨g, hg⟩ : ∃ g, N k + 1 = g := ⟨_, rfl⟩
          have hge : ((N k : Int) + 1) = (g : Int) := by omega
          rw [hg] at hp1
          simp only [hge]
          have hy2 := heap_alloc_new v1 (.cells #[.int .i64 k, .int .u64 g] 34)
          have hbn : Below v1.heap.size v1 (v1.alloc (.cells #[.int .i64 k, .int .u64 g] 34)) := (Below.refl _ v1).alloc (Nat.le_refl _) _
          have hp2 := hp1.kept hbn
          have hm2 := hm1.keep (hbn.block _ hm1.lt)
          have hr2 := hr1.alloc (.cells #[.int .i64 k, .int .u64 g] 34)
          have hb2 : Below B w (v1.alloc (.cells #[.int .i64 k, .int .u64 g] 34)) := (hbl1.trans hF1.bel).alloc hp1.size _
          have ht2 := ht1.gr (B := v1.heap.size) (by have := hp1.size; omega) hbn
          clear kM hge hg
          generalize v1.alloc (.cells #[.int .i64 k, .int .u64 g] 34) = W2 at hy2 hp2 hm2 hr2 hb2 ht2 ⊢
          generalize v1.heap.size = z2 at hy2 ⊢
          have y0 := cell_of hy2 0
          have y1 := cell_of hy2 1
          simp at y0 y1
          have lk := hm_look hm2 (k : Int) g
          rw [hFm, show cvM M k g = 0 by simp [cvM, getM_nat, hMk, cvO]] at lk
          obtain ⟨W3, p3, i3, t3⟩ := hm_put hm2 (k : Int) g (.int .i64 2)
          obtain ⟨hH3, hb3⟩ := Hc.put hp2 i3 (cv_put hFm (x := some ⟨g, 1, x.k, List.replicate sz 0⟩) (fun g' hg' => by have hne : ¬ g = g' := fun e => hg' e.symm; simp [cvO, hMk, hne]) 2 (by simp [cvO])) t3 hr2 hH1.n1 hH1.n2 hH1.n3 hH1.mB (by have := hH.len; omega) ht2 h0
          have hy3 : W3.heap[z2]? = some (.cells #[.int .i64 k, .int .u64 g] 34 (0, 0)) := (t3.grown.block _ (heap_lt hy2) (by simp; rintro rfl; exact hm_notc hm2 hy2)).trans hy2
          have w0 := cell_of hy3 0
          have w1' := cell_of hy3 1
          simp at w0 w1'
          have hW3 := hH3.hp.size
          have hXl := hH.len
          clear hm1 hr1 hp1 hF1 hm2 hr2 hbn t3 i3
          go_wp2_with (at_builtin; go_loud (refine wpList_append_own_at _ rfl _ _ 31 rfl B 34 i34 (.agg #[.int .i64 0, .int .u64 0]) 2 16 Tryd.underlying31 hi34 hzi0 hzi1 hzi2 rfl (by decide) (.slice p X.length c) X.length (hCells X) rfl (hH3.row.alloc _) _ 1 1 [.int .i64 k, .int .u64 g] rfl rfl (news_new _ _ _ _ rfl) (by simp [Value.oneCell']) (by simp [maxLen]; omega) (by omega) (by simp; omega) ?_; intro v' W4 hown hgrow hnil hloc; obtain ⟨p', c', rfl⟩ : ∃ p cap, v' = .slice p (X.length + 1) cap := H.own_shape hown))
          have hb4 : Below B W3 W4 := ((Below.refl B W3).alloc hW3 _).grown hgrow (by simp; omega) (fun k e => (hH3.row.lt k e).1)
          have hH4 := hH3.app (s := (k : Int)) (g := g) (by simpa using hown) (fun j hj hne => (hgrow.block j (by simp; omega) hne).trans (Below.heap_alloc _ _ _ hj)) hb4.size (by omega) hb4 h0
          exact ⟨⟨i + 1, _, _, _, _, _, _, X ++ [((k : Int), g)], p', c', by simp, by simp, by omega, (by rw [show (X ++ [((k : Int), g)]).length = X.length + 1 by simp]; exact hH4), (hb2.trans hb3).trans hb4⟩, by simp [valOf]; omega⟩
      · have d0 : (x.d == 0) = false := by simpa using hd0
        have hXl := hH.len
        have hC : ∀ j (v : Value), (spC x)[j]? = some v → W1.cell? ⟨z1, j, none⟩ = some v := fun j v e => by rw [cell_of hz1]; exact e
        have c1' := hC 1 (.int .i64 x.o) rfl
        have c3 := hC 3 (.int .i64 x.a) rfl
        have c5 := hC 5 (.string x.s) rfl
        have c6 := hC 6 (.int .i64 x.h) rfl
        have c7 := hC 7 (.int .u64 x.g) rfl
        have kp := pick_any W1 B p X c hH1.row (by omega) x hxo
        clear hC
        go_upto_region 20 with (go_at_call 12; refine kp.mono ?_; unfold hdV; rintro e v1 ⟨rfl, hb1⟩)
        generalize pkM X x = ph
        obtain ⟨ps, pg⟩ := ph
        simp only
        have hbn : Below v1.heap.size v1 (v1.alloc (.cells #[.int .i64 ps, .int .u64 pg] 34)) := (Below.refl _ v1).alloc (Nat.le_refl _) _
        have hH1' := hH1.kept hb1 h0 (Nat.le_refl _) (by omega)
        have hH2 := hH1'.kept hbn h0 (Nat.le_refl _) (by omega)
        have hbl2 : Below B w (v1.alloc (.cells #[.int .i64 ps, .int .u64 pg] 34)) := (hbl1.trans (hb1.mono hH1.hp.size)).alloc hH1'.hp.size _
        have hy2 := heap_alloc_new v1 (.cells #[.int .i64 ps, .int .u64 pg] 34)
        have hz2 := (hbn.block _ (Nat.lt_of_lt_of_le (heap_lt hz1) hb1.size)).trans ((hb1.block _ (heap_lt hz1)).trans hz1)
        clear kp hbn hH1' c0 c1' c2 c3 c4 c5 c6 c7 hz1 hW1
        generalize v1.alloc (.cells #[.int .i64 ps, .int .u64 pg] 34) = W2 at hH2 hbl2 hy2 hz2 ⊢
        generalize v1.heap.size = z2 at hy2 ⊢
        have c0 : W2.cell? ⟨z1, 0, none⟩ = some (.int .i64 x.d) := by rw [cell_of hz2]; rfl
        have y0 := (cell_of hy2 0).trans (show _ = some (Value.int .i64 ps) from rfl)
        have y1 := (cell_of hy2 1).trans (show _ = some (Value.int .u64 (pg : Int)) from rfl)
        obtain ⟨kk, F, hm2, hF2⟩ := hH2.mp
        have lk := hm_look hm2 ps pg
        rw [hF2] at lk
        go_upto_block 2 with fail
        clear lk hF2 hm2 c0
        go_cut [14] (fun n14 wx => ∃ used N M ns A K, Hc wx B q mc a0 used N M ns A K (i + 1) X (.slice p X.length c) ∧ wx.heap[z2]? = some (.cells #[.int .i64 ps, .int .u64 pg] 34 (0, 0)) ∧ Below B w wx)
        case first =>
          cases hL : liveB M ps pg with
          | false =>
            have hw0 : cvM M ps pg = 0 := cv_dead hL
            rw [hw0]
            have kH' := hold_no W2 _ _ _ _ _ _ _ _ _ _ hH2.hp ps pg hL
            have kD' := hdrop_no W2 _ _ _ _ _ _ _ _ _ _ hH2.hp ps pg hL
            have kF' := free_no W2 _ _ _ _ _ _ _ _ _ _ hH2.hp ps pg hL
            go_wp2_with (first | (go_at_call 23; refine kH'.mono ?_; rintro e v1 ⟨rfl, hb3⟩) | (go_at_call 24; refine kD'.mono ?_; rintro e v1 ⟨rfl, hb3⟩) | (go_at_call 25; refine kF'.mono ?_; rintro e v1 ⟨rfl, hb3⟩))
            all_goals go_meet
            all_goals first
              | exact ⟨used, N, M, ns, A, K, hH2.kept hb3 h0 (Nat.le_refl _) (by omega), (hb3.block _ (heap_lt hy2)).trans hy2, hbl2.trans (hb3.mono hH2.hp.size)⟩
              | exact ⟨used, N, M, ns, A, K, hH2, hy2, hbl2⟩
          | true =>
            obtain ⟨k, o, rfl, hM, rfl⟩ := live_at hL
            rw [cv_live hM]
            obtain ⟨-, -, hc0, hci, -⟩ := hH0.ow.ob k o hM
            by_cases e1 : x.d = 1
            · have b1 : (x.d == 1) = true := by simp [e1]
              replace e1 : Hid _ := e1
              have kC := hold_ok W2 _ _ _ _ _ _ _ _ _ _ hH2.hp k o hM (by simp; omega)
              have g1 : decide (0 < o.c + 1) = true := by simp; omega
              have w4 : IntKind.i64.wrap (o.c + 1 + 1) = o.c + 1 + 1 := IntWalk.i64_in _ (by omega)
              go_wp2_with (go_at_call 23; refine kC.mono ?_; go_loud (rintro e v3 ⟨rfl, hp3, hF3⟩; obtain ⟨⟨kk, F, hm3, hFm3⟩, hr3, ht3⟩ := hH2.side hF3 h0; have hy3 := hF3.at34 hH2.hp hy2; have u0 := (cell_of hy3 0).trans (show _ = some (Value.int .i64 (k : Int)) from rfl); have u1 := (cell_of hy3 1).trans (show _ = some (Value.int .u64 (o.g : Int)) from rfl); obtain ⟨W4, p4, i4, t4⟩ := hm_put hm3 (k : Int) o.g (.int .i64 (o.c + 1 + 1))))
              all_goals go_meet

              obtain ⟨hH4, hb4⟩ := Hc.put hp3 i4 (cv_put hFm3 (x := some { o with c := o.c + 1 }) (fun g' hg' => by have hne : ¬ o.g = g' := fun e => hg' e.symm; simp [cvO, hM, hne]) _ (by simp [cvO])) t4 hr3 hH1.n1 hH1.n2 hH1.n3 hH1.mB (by omega) ht3 h0
              have hy4 : W4.heap[z2]? = some (.cells #[.int .i64 k, .int .u64 o.g] 34 (0, 0)) := (t4.grown.block _ (heap_lt hy3) (by simp; rintro rfl; exact hm_notc hm3 hy3)).trans hy3
              exact ⟨_, _, _, _, _, _, hH4, hy4, (hbl2.trans hF3.bel).trans hb4⟩
            by_cases e2 : x.d = 2
            · by_cases hz : o.c = 0
              · have b1 : (x.d == 1) = false := by simp [e1]
                have b2 : (x.d == 2) = true := by simp [e2]
                replace e2 : Hid _ := e2
                have kC := hdrop_zero W2 _ _ _ _ _ _ _ _ _ _ hH2.hp k o hM hz
                have g1 : decide (1 < o.c + 1) = false := by simp; omega
                go_wp2_with (go_at_call 24; refine kC.mono ?_; rintro e v3 ⟨rfl, hb3⟩)
                all_goals go_meet
                exact ⟨used, N, M, ns, A, K, hH2.kept hb3 h0 (Nat.le_refl _) (by omega), (hb3.block _ (heap_lt hy2)).trans hy2, hbl2.trans (hb3.mono hH2.hp.size)⟩
              · have b1 : (x.d == 1) = false := by simp [e1]
                have b2 : (x.d == 2) = true := by simp [e2]
                replace e2 : Hid _ := e2
                have kC := hdrop_ok W2 _ _ _ _ _ _ _ _ _ _ hH2.hp k o hM (by omega)
                have g1 : decide (1 < o.c + 1) = true := by simp; omega
                have w4 : IntKind.i64.wrap (o.c + 1 - 2) = o.c - 1 := by rw [IntWalk.i64_in _ (by omega)]; omega
                have w5 : IntKind.i64.wrap (o.c + 1 - 1) = o.c := by rw [IntWalk.i64_in _ (by omega)]; omega
                go_wp2_with (go_at_call 24; refine kC.mono ?_; go_loud (rintro e v3 ⟨rfl, hp3, hF3⟩; obtain ⟨⟨kk, F, hm3, hFm3⟩, hr3, ht3⟩ := hH2.side hF3 h0; have hy3 := hF3.at34 hH2.hp hy2; have u0 := (cell_of hy3 0).trans (show _ = some (Value.int .i64 (k : Int)) from rfl); have u1 := (cell_of hy3 1).trans (show _ = some (Value.int .u64 (o.g : Int)) from rfl); obtain ⟨W4, p4, i4, t4⟩ := hm_put hm3 (k : Int) o.g (.int .i64 (o.c))))
                all_goals go_meet

                obtain ⟨hH4, hb4⟩ := Hc.put hp3 i4 (cv_put hFm3 (x := some { o with c := o.c - 1 }) (fun g' hg' => by have hne : ¬ o.g = g' := fun e => hg' e.symm; simp [cvO, hM, hne]) _ (by simp [cvO])) t4 hr3 hH1.n1 hH1.n2 hH1.n3 hH1.mB (by omega) ht3 h0
                have hy4 : W4.heap[z2]? = some (.cells #[.int .i64 k, .int .u64 o.g] 34 (0, 0)) := (t4.grown.block _ (heap_lt hy3) (by simp; rintro rfl; exact hm_notc hm3 hy3)).trans hy3
                exact ⟨_, _, _, _, _, _, hH4, hy4, (hbl2.trans hF3.bel).trans hb4⟩
            by_cases e3 : x.d = 3
            · by_cases hz : o.c = 0
              · have b1 : (x.d == 1) = false := by simp [e1]
                have b2 : (x.d == 2) = false := by simp [e2]
                have b3 : (x.d == 3) = true := by simp [e3]
                replace e3 : Hid _ := e3
                have kC := free_ok W2 _ _ _ _ _ _ _ _ _ _ hH2.hp hH2.tab h0 k o hM hz
                have g1 : (o.c + 1 == 1) = true := by simp; omega
                go_wp2_with (go_at_call 25; refine kC.mono ?_; go_loud (rintro e v3 ⟨rfl, hp3, hF3⟩; obtain ⟨⟨kk, F, hm3, hFm3⟩, hr3, ht3⟩ := hH2.side hF3 h0; have hy3 := hF3.at34 hH2.hp hy2; have u0 := (cell_of hy3 0).trans (show _ = some (Value.int .i64 (k : Int)) from rfl); have u1 := (cell_of hy3 1).trans (show _ = some (Value.int .u64 (o.g : Int)) from rfl); obtain ⟨W4, p4, i4, t4⟩ := hm_put hm3 (k : Int) o.g (.int .i64 (0))))
                all_goals go_meet

                obtain ⟨hH4, hb4⟩ := Hc.put hp3 i4 (cv_put hFm3 (x := none) (fun g' hg' => by have hne : ¬ o.g = g' := fun e => hg' e.symm; simp [cvO, hM, hne]) _ (by simp [cvO])) t4 hr3 hH1.n1 hH1.n2 hH1.n3 hH1.mB (by omega) ht3 h0
                have hy4 : W4.heap[z2]? = some (.cells #[.int .i64 k, .int .u64 o.g] 34 (0, 0)) := (t4.grown.block _ (heap_lt hy3) (by simp; rintro rfl; exact hm_notc hm3 hy3)).trans hy3
                exact ⟨_, _, _, _, _, _, hH4, hy4, (hbl2.trans hF3.bel).trans hb4⟩
              · have b1 : (x.d == 1) = false := by simp [e1]
                have b2 : (x.d == 2) = false := by simp [e2]
                have b3 : (x.d == 3) = true := by simp [e3]
                replace e3 : Hid _ := e3
                have kC := free_held W2 _ _ _ _ _ _ _ _ _ _ hH2.hp k o hM (by omega)
                have g1 : (o.c + 1 == 1) = false := by simp; omega
                go_wp2_with (go_at_call 25; refine kC.mono ?_; rintro e v3 ⟨rfl, hb3⟩)
                all_goals go_meet
                exact ⟨used, N, M, ns, A, K, hH2.kept hb3 h0 (Nat.le_refl _) (by omega), (hb3.block _ (heap_lt hy2)).trans hy2, hbl2.trans (hb3.mono hH2.hp.size)⟩
            have b1 : (x.d == 1) = false := by simp [e1]
            have b2 : (x.d == 2) = false := by simp [e2]
            have b3 : (x.d == 3) = false := by simp [e3]
            go_wp2
            all_goals go_meet
            exact ⟨used, N, M, ns, A, K, hH2, hy2, hbl2⟩
        case rest =>
          obtain ⟨used, N, M, ns, A, K, hH3, hy3, hbl3⟩ := hcut
          have u0 := (cell_of hy3 0).trans (show _ = some (Value.int .i64 ps) from rfl)
          have u1 := (cell_of hy3 1).trans (show _ = some (Value.int .u64 (pg : Int)) from rfl)
          have kK := kind_any wc _ _ _ _ _ _ _ _ _ _ hH3.hp ps pg
          go_upto_region 40 with (go_at_call 17; refine kK.mono ?_; rintro e v4 ⟨rfl, hb4⟩)
          have hH4 := hH3.kept hb4 h0 (Nat.le_refl _) (by omega)
          have hy4 := (hb4.block _ (heap_lt hy3)).trans hy3
          have hbl4 := hbl3.trans (hb4.mono hH3.hp.size)
          clear u0 u1 kK
          have u0 := (cell_of hy4 0).trans (show _ = some (Value.int .i64 ps) from rfl)
          have u1 := (cell_of hy4 1).trans (show _ = some (Value.int .u64 (pg : Int)) from rfl)
          have kR := hread_any v4 _ _ _ _ _ _ _ _ _ _ hH4.hp ps pg 0 0 (by unfold I64; omega) (by unfold I64; omega)
          go_upto_region 41 with (go_at_call 26; refine kR.mono ?_; rintro e v5 ⟨rfl, hb5⟩)
          have hH5 := hH4.kept hb5 h0 (Nat.le_refl _) (by omega)
          have hy5 := (hb5.block _ (heap_lt hy4)).trans hy4
          have hbl5 := hbl4.trans (hb5.mono hH4.hp.size)
          clear u0 u1 kR
          have u0 := (cell_of hy5 0).trans (show _ = some (Value.int .i64 ps) from rfl)
          have u1 := (cell_of hy5 1).trans (show _ = some (Value.int .u64 (pg : Int)) from rfl)
          obtain ⟨kk, F, hm5, hF5⟩ := hH5.mp
          have lk := hm_look hm5 ps pg
          rw [hF5] at lk
          have hpos : ∀ k o, M k = some o → 0 ≤ o.c := fun k o e => (hH5.hp.ow.ob k o e).2.2.1
          cases hL : liveB M ps pg with
          | false =>
            rw [cv_dead hL] at lk
            rw [show rdE M ps pg 0 0 = 130 by simp [rdE, hL]]
            go_wp2
            exact ⟨⟨i + 1, used, N, M, ns, A, K, X, p, c, by simp, rfl, by omega, hH5, hbl5⟩, by simp [valOf]; omega⟩
          | true =>
            have hE : rdE M ps pg 0 0 = 0 := by simp [rdE, hL, inE]
            have hcp : 0 < cvM M ps pg := by
              obtain ⟨k, o, rfl, hM, rfl⟩ := live_at hL
              rw [cv_live hM]
              have := hpos k o hM
              omega
            have hcd : decide (0 < cvM M ps pg) = true := decide_eq_true hcp
            generalize cvM M ps pg = cv at lk hcd
            rw [hE]
            clear hcp
            go_wp2
            exact ⟨⟨i + 1, used, N, M, ns, A, K, X, p, c, by simp, rfl, by omega, hH5, hbl5⟩, by simp [valOf]; omega⟩
    · have dA : decide ((i : Int) < L1.length) = false := by simp; omega
      have k9' := k9 wr hH.tab (by have := hbl.size; omega)
      go_wp2_with (go_at_call 9; refine k9'.mono ?_; rintro e w3 ⟨rfl, hb⟩)
      all_goals go_returns
      exact ⟨rfl, by rw [hB0.out]; exact hbl.trans (hb.mono hwr)⟩

theorem readable : ∀ t ∈ Tryd.f4.params.toList, Tryd.prog.readableRec t = true ∧ t < Tryd.prog.types.size := by
  rw [Tryd.params4]
  intro t ht
  simp at ht
  rcases ht with rfl | rfl
  all_goals exact ⟨by kernel_rfl, of_decide_eq_true (by kernel_rfl)⟩
set_option maxRecDepth 100000 in
theorem lifted (os : Os) (started : os.Started) (H : Type) (enc : TypeId × Value → H) :
    ReturnsInHanded {} Tryd.checked os 4 .any (fun w args => (Rows.heapCountsSpec.pre enc Tryd.prog Tryd.f4 [] false w args ∧ laidMetH Tryd.prog laidL w) ∧ sizedMet enc Tryd.prog Tryd.f4 (OpenSpec.ofChange Rows.heapCountsSpec) false w args) (Rows.heapCountsSpec.post enc Tryd.prog Tryd.f4 false true false false) := by
  refine returnsInHanded_of_change_and (C := Tryd.checked) (X := fun w _ => laidMetH Tryd.prog laidL w) (fun _ _ _ hh h => h.of_heap hh) own started (by kernel_rfl) Tryd.func4
    (ChangeSpec.witness_shaped (enc := enc) (C := Tryd.checked) (os := os) (X := fun w _ => laidMetH Tryd.prog laidL w) false (World.doorLaid Tryd.prog 400 os) #[.int .u16 0, .slice none 0 0] 8 rfl (World.shaped_of_RefB (by kernel_rfl) (by kernel_rfl)) (by kernel_rfl) (by kernel_rfl) (by kernel_rfl) (door_met os _)) ?_
  intro W base args ds gs before hval0 hW _ _ hL _
  have hval : ∀ (j : Nat) t v, Tryd.f4.params[j]? = some t → args[j]? = some v → Value.okWide Tryd.prog W .any base t v := hval0
  have hW' := hW
  obtain ⟨p, q, hA0, hV, rfl, hfz, hnd⟩ := hW
  have hA : DataW.TrodAll enc Tryd.prog W 0 (fun _ => true) true Tryd.f4.params.toList args.toList ds p := hA0
  rw [Tryd.params4] at hA hval
  obtain ⟨v0, vs0, d0, ds0, p0, q0, hargs, rfl, rfl, h0, r0⟩ := trodAll_cons hA
  obtain ⟨v1, vs1, d1, ds1, p1, q1, rfl, rfl, rfl, h1, r1⟩ := trodAll_cons r0
  obtain ⟨rfl, rfl, rfl⟩ := trodAll_nil r1
  obtain rfl : args = #[v0, v1] := by cases args; simp_all
  obtain ⟨rfl, rfl⟩ := trodVars_none hV
  obtain ⟨a0, rfl, rfl, rfl, w0⟩ := open_int Tryd.underlying56 (hval 0 56 v0 rfl rfl) h0
  obtain ⟨p1, L1, c1, rfl, hL1⟩ := open_sps (hval 1 22 v1 rfl rfl) h1
  clear hA0 hval0
  obtain ⟨hTab, hpos⟩ := tab_of hL
  refine (walk a0 p1 L1 c1 W hTab hpos w0 hL1).mono fun e W' ⟨he, hg⟩ => ?_
  subst he
  exact ⟨_, rfl, post_bel readable hW' rfl (fun _ _ _ => (trodAll_cons_mk (shut_bool Tryd.underlying4 _) trodAll_mk0)) rfl (fun _ => rfl)
    hg (ok_one (by kernel_rfl) rfl (okWide_bool_mk Tryd.underlying4 _))⟩

theorem over : Rows.HeapCountsSaid :=
  OpenClaim.holds_of_wide 4 Tryd.f4 rfl rfl rfl rfl rfl rfl rfl ⟨rfl, rfl, rfl, rfl, rfl⟩ rfl rfl rfl rfl rfl (by kernel_rfl) Tryd.func4 (by kernel_rfl)
    (of_decide_eq_true (by kernel_rfl)) (by unfold Func.isWrapper; first | (rw [if_pos (by decide +kernel)]; kernel_rfl) | (rw [if_neg (by decide +kernel)]; exact ⟨rfl, rfl⟩))
    (fun os started H enc _ => lifted os started H enc)
end Go.Proofs.YtooblonafnlfcaaDoor.heapCounts
namespace Go.Proofs.YtooblonafnlfcaaDoor
theorem heapCounts_holds : Rows.HeapCountsCardSaid :=
  Claim7.holds_tied_plain_at .later [] [.data] true (true, "b767f1769450228dc74670ef9fc0548c4ed2a596c62c776f9a54ab77b3249b2a") false
    heapCounts.over (fun _ h => by cases h) (by kernel_rfl) (fun _ h => by cases h) heapCounts_row_tie rfl ⟨rfl, rfl⟩ (by kernel_rfl) rfl
    (fun f fn hf hfn => by
      obtain rfl : f = 4 := Option.some.inj ((show Tryd.prog.funcNamed "warden/wardenlaw14.HeapCounts" = some 4 by kernel_rfl).symm.trans hf) |>.symm
      obtain rfl : fn = Tryd.f4 := (Option.some.inj (Tryd.func4.symm.trans hfn)).symm
      exact ⟨by kernel_rfl, fun j t ht => by
        rw [Tryd.params4] at ht
        have hm : t ∈ [56, 22] := by simpa using Array.mem_of_getElem? ht
        have hall : ([56, 22].all fun u => !Tryd.prog.wantsStandIn u) = true := by kernel_rfl
        exact (show Tryd.prog.wantsStandIn t = false by simpa using List.all_eq_true.1 hall t hm)⟩)
    (by kernel_rfl)
#print axioms heapCounts_holds
end Go.Proofs.YtooblonafnlfcaaDoor
