/- HeapPlays: what each call answers, which objects live, of which kind, how often they are held, and how much is used, as the document says (P14.1, P14.2), for any room, any script: the statement as given, its table of classes tied to the text of the program. No condition beside those of the card itself. -/
import Derived.Test.YtooblonafnlfcaaDoorDPQ
import Derived.Deep.CutBlock
import Derived.Test.YtooblonafnlfcaaDoorCards
import Derived.Test.YtooblonafnlfcaaDoorTie
import Derived.WalkKit
import Derived.ProofKit
import Derived.OpenShut
import Derived.ShutString
import Derived.SevenTiedAt
namespace Go.Proofs.YtooblonafnlfcaaDoor.heapPlays
open Go.ChangeShapes Go.WideShapes Go.ChangeAt Go.RowKit
set_option linter.unusedVariables false
set_option linter.unusedSimpArgs false
theorem own : ownKnob Tryd.prog.godebug = none := by kernel_rfl
open H
set_option maxRecDepth 100000 in
set_option maxHeartbeats 16000000 in
theorem walk (a0 : Int) (p1 : Option Addr) (L1 : List Sp) (c1 : Nat) (w : World) (hT : Tab w) (h0 : 0 < w.heap.size) (w0 : (Lit.int .i64 a0).wf = true) (hL1 : Sps w p1 L1) :
    Calls Tryd.prog 3 #[.int .i64 a0, .slice p1 L1.length c1] w fun e w' => e = .returned (.bool true) ∧ Below w.heap.size w w' := by
  have hroom := wf_i64 w0
  obtain ⟨i34, hi34, hzi0, hzi1, hzi2⟩ := info_parts info34
  have kh := heavy_any w p1 L1 c1 hL1
  have k9 := fun W hT h0 => hworks_any W hT h0
  by_cases hlen : L1.length ≤ 250
  case neg =>
    replace kh : Calls Tryd.prog 8 #[.slice p1 L1.length c1] w fun e w' => e = .returned (.bool true) ∧ w' = w := kh.mono fun e w' ⟨⟨b, e1, e2⟩, e3⟩ => by
      rcases e2 with e2 | rfl
      · exact absurd e2 hlen
      · exact ⟨e1, e3⟩
    have k9' := k9 w hT h0
    go_enter Tryd.func3, Tryd.ntmps3
    go_wp2_with (first | (go_at_call 8; refine kh.mono ?_; rintro e w' ⟨rfl, hw⟩; rw [hw]; clear hw) | (go_at_call 9; refine k9'.mono ?_; rintro e w3 ⟨rfl, hb⟩))
    all_goals go_returns
    exact ⟨rfl, hb⟩
  case pos =>
  have kn : Calls Tryd.prog 10 #[.int .i64 a0] w fun e w' => ∃ v c, e = .returned (.tuple #[v, .int .i64 c]) ∧ ((v = .pointer none ∧ c = 2 ∧ (a0 < 0 ∨ 65536 < a0) ∧ w' = w) ∨ (∃ q : HQ, v = .pointer (some ⟨q.b, 0, none⟩) ∧ c = 0 ∧ 0 ≤ a0 ∧ a0 ≤ 65536 ∧ Hp (fun _ => False) w' w.heap.size q a0 0 (fun _ => 0) (fun _ => none) 0 (fun _ => 0) (fun _ => 0) 0 ∧ Below w.heap.size w w')) := by
    by_cases hr : 0 ≤ a0 ∧ a0 ≤ 65536
    · exact (hnew_any (Yo := fun _ => False) a0 hr w (by simp)).mono fun e w' ⟨q, e1, e2, e3⟩ => ⟨_, _, e1, .inr ⟨q, rfl, rfl, hr.1, hr.2, e2, e3⟩⟩
    · exact (hnew_bad a0 (by omega) w).mono fun e w' ⟨e1, e2⟩ => ⟨_, _, e1, .inl ⟨rfl, rfl, by omega, e2⟩⟩
  go_enter Tryd.func3, Tryd.ntmps3
  go_upto_if 24 with (go_at_call 8; refine kh.mono ?_; rintro e w' ⟨⟨hv, rfl, -⟩, hw⟩; rw [hw]; clear hw)
  cases hv with
  | true =>
    have k9' := k9 w hT h0
    go_wp2_with (go_at_call 9; refine k9'.mono ?_; rintro e w3 ⟨rfl, hb⟩)
    all_goals go_returns
    exact ⟨rfl, hb⟩
  | false =>
  go_upto_region 4 with (go_at_call 10; go_loud (refine kn.mono ?_; rintro e wa ⟨v, c, rfl, hvc⟩))
  rcases hvc with ⟨rfl, rfl, hr, hw⟩ | ⟨q, rfl, rfl, hr1, hr2, hpa, hba⟩
  · rw [hw]; clear hw
    have k9' := k9 w hT h0
    have q1 : (binOp .eql 25 (.pointer none) (.pointer none)).run Tryd.prog w = .ok (.bool true) w := by kernel_rfl
    by_cases hn : a0 < 0
    · have d1 : decide (a0 < 0) = true := by simpa using hn
      go_wp2_with (go_at_call 9; refine k9'.mono ?_; rintro e w3 ⟨rfl, hb⟩)
      all_goals go_returns
      exact ⟨rfl, hb⟩
    · have d1 : decide (a0 < 0) = false := by simpa using hn
      have d2 : decide ((65536 : Int) < a0) = true := by rw [decide_eq_true_eq]; omega
      go_wp2_with (go_at_call 9; refine k9'.mono ?_; rintro e w3 ⟨rfl, hb⟩)
      all_goals go_returns
      exact ⟨rfl, hb⟩
  have d1 : decide (a0 < 0) = false := by rw [decide_eq_false_iff_not]; omega
  have d2 : decide ((65536 : Int) < a0) = false := by rw [decide_eq_false_iff_not]; omega
  have q1 : ∀ z, (binOp .eql 25 (.pointer (some ⟨z, 0, none⟩)) (.pointer none)).run Tryd.prog wa = .ok (.bool false) wa := fun z => by kernel_rfl
  have kO := onew_any wa w.heap.size hba.size a0
  go_upto_region 9 with (go_at_call 11; go_loud (refine kO.mono ?_; rintro e wb ⟨b, r, t, rfl, hO, hbb⟩))
  have hsa := hba.size
  generalize hB0 : w.heap.size = B at hpa hba hO h0 hsa
  have hHb : Hy wb B q b r t a0 0 (fun _ => 0) (fun _ => none) 0 (fun _ => 0) (fun _ => 0) [] [] (.slice none 0 0) (.slice none 0 0) (.slice none 0 0) (.slice none 0 0) [] (.slice none 0 0) 0 :=
    ⟨hpa.kept hbb, hO, (hT.gr h0 hba).gr h0 (hbb.mono hsa), World.ownsRow_nil _ _ _ _, by simp, by simp [Value.ownBlock], h0⟩
  have hbl : Below B w wb := hba.trans (hbb.mono hsa)
  clear kn kh kO hpa hba hbb hO q1
  have hR1 : Hid (Sps w p1 L1) := hL1
  clear hL1
  replace hB0 : Hid _ := hB0
  go_wp2
  go_loopw [8, 9] (fun n8 n9 wr => ∃ (i : Nat) (used : Int) (N : Int → Nat) (M : MJ) (ns : Nat) (A K : Nat → Nat) (O : List Do) (X : List HKey) (vO vS vX vT : Value) (Y : List HKey) (p : Option Addr) (c : Nat), n9 = .int .i64 i ∧ n8 = .slice p Y.length c ∧ i ≤ L1.length ∧ Hy wr B q b r t a0 used N M ns A K O X vO vS vX vT Y (.slice p Y.length c) i ∧ Below B w wr) (fun _ n9 _ => L1.length - (valOf n9).toNat)
  case atStart => exact ⟨0, 0, _, _, 0, _, _, [], [], _, _, _, _, [], none, 0, rfl, rfl, by omega, hHb, hbl⟩
  case round =>
    clear hHb hbl
    obtain ⟨i, used, N, M, ns, A, K, O, X, vO, vS, vX, vT, Y, p, c, rfl, rfl, hi, hH, hbl⟩ := hrel
    have hwr := hH.hp.size
    by_cases hin : i < L1.length
    · have dA : decide ((i : Int) < L1.length) = true := by simp; omega
      have e9 : IntKind.i64.wrap ((i : Int) + 1) = (i : Int) + 1 := IntWalk.i64_in _ (by omega)
      obtain ⟨xb, xo, x, hxL, hxo, hxa, hxb, hix⟩ := idx36n hR1.out hin
      obtain ⟨q0, q1, q2, q3, q4, q5, q6, q7⟩ := hxa.below hbl (by have := hB0.out; omega)
      have hix' := hix c1
      go_upto_region 14 with fail
      have hz1 := heap_alloc_new wr (.cells (spC x) 36)
      have hbn : Below wr.heap.size wr (wr.alloc (.cells (spC x) 36)) := (Below.refl _ wr).alloc (Nat.le_refl _) _
      have hbl1 : Below B w (wr.alloc (.cells (spC x) 36)) := hbl.alloc hwr _
      have hH1 := hH.kept hbn
      clear q0 q1 q2 q3 q4 q5 q6 q7 hix hix' hxa hbn
      generalize hW1 : wr.alloc (.cells (spC x) 36) = W1 at hz1 hH1 hbl1
      simp only [spC] at hW1
      simp only [hW1]
      generalize wr.heap.size = z1 at hz1 ⊢
      have hC1 : ∀ j (v : Value), (spC x)[j]? = some v → W1.cell? ⟨z1, j, none⟩ = some v := fun j v e => by rw [cell_of hz1]; exact e
      have c0 := hC1 0 (.int .i64 x.d) rfl
      have c1' := hC1 1 (.int .i64 x.o) rfl
      have c2 := hC1 2 (.int .i64 x.k) rfl
      have c3 := hC1 3 (.int .i64 x.a) rfl
      have c4 := hC1 4 (.int .i64 x.n) rfl
      have c5 := hC1 5 (.string x.s) rfl
      have c6 := hC1 6 (.int .i64 x.h) rfl
      have c7 := hC1 7 (.int .u64 x.g) rfl
      have hYl := hH.len
      have kp := pick_any W1 B p Y c hH1.row (by omega) x hxo
      clear hC1
      go_upto_region 15 with (go_at_call 12; refine kp.mono ?_; unfold hdV; rintro e v1 ⟨rfl, hb1⟩)
      generalize pkM Y x = ph
      obtain ⟨ps, pg⟩ := ph
      simp only
      have hbn : Below v1.heap.size v1 (v1.alloc (.cells #[.int .i64 ps, .int .u64 pg] 34)) := (Below.refl _ v1).alloc (Nat.le_refl _) _
      have hH1' := hH1.kept hb1
      have hH2 := hH1'.kept hbn
      have hbl2 : Below B w (v1.alloc (.cells #[.int .i64 ps, .int .u64 pg] 34)) := (hbl1.trans (hb1.mono hH1.hp.size)).alloc hH1'.hp.size _
      have hy2 := heap_alloc_new v1 (.cells #[.int .i64 ps, .int .u64 pg] 34)
      have hz2 := (hbn.block _ (Nat.lt_of_lt_of_le (heap_lt hz1) hb1.size)).trans ((hb1.block _ (heap_lt hz1)).trans hz1)
      have hzX : (∀ g, vX.ownBlock = some g → g < v1.heap.size) ∧ ∀ g, vT.ownBlock = some g → g < v1.heap.size := by
        obtain ⟨T, t1, _, _⟩ := hH1'.oh.tb.ex
        exact ⟨fun g e => (t1.rowX.lt g e).2, fun g e => (t1.rowT.lt g e).2⟩
      have hY2 : ∀ g, (Value.slice p Y.length c).ownBlock = some g → g < v1.heap.size := fun g e => Nat.lt_of_lt_of_le (hH1.row.lt g e).2 hb1.size
      have hBz2 : B ≤ v1.heap.size := hH1'.hp.size
      clear kp hbn hH1' c0 c1' c2 c3 c4 c5 c6 c7 hz1 hW1
      generalize v1.alloc (.cells #[.int .i64 ps, .int .u64 pg] 34) = W2 at hH2 hbl2 hy2 hz2 ⊢
      generalize v1.heap.size = z2 at hy2 hzX hY2 hBz2 ⊢
      have hC : ∀ j (v : Value), (spC x)[j]? = some v → W2.cell? ⟨z1, j, none⟩ = some v := fun j v e => by rw [cell_of hz2]; exact e
      have c0 := hC 0 (.int .i64 x.d) rfl
      have c2 := hC 2 (.int .i64 x.k) rfl
      have c4 := hC 4 (.int .i64 x.n) rfl
      have y0 := (cell_of hy2 0).trans (show _ = some (Value.int .i64 ps) from rfl)
      have y1 := (cell_of hy2 1).trans (show _ = some (Value.int .u64 (pg : Int)) from rfl)
      go_upto_if 69 with fail
      go_cut [8, 12, 13, 14, 15] (fun n8 n12 n13 n14 n15 wx => ∃ (used : Int) (N : Int → Nat) (M : MJ) (ns : Nat) (A K : Nat → Nat) (O : List Do) (X : List HKey) (vO vS vX vT : Value) (Y : List HKey) (p : Option Addr) (c : Nat) (ps : Int) (pg : Nat), n8 = .slice p Y.length c ∧ Hy wx B q b r t a0 used N M ns A K O X vO vS vX vT Y (.slice p Y.length c) (i + 1) ∧ wx.heap[z2]? = some (.cells #[.int .i64 ps, .int .u64 (pg : Int)] 34 (0, 0)) ∧ Below B w wx)
      case first =>
        by_cases hd0 : x.d = 0
        · have d0 : (x.d == 0) = true := by simp [hd0]
          by_cases hcz : clsM x.n = 0
          · as_aux_lemma =>
            have kM := make_bad W2 _ _ _ _ _ _ _ _ _ _ hH2.hp hH2.tab h0 x.k x.n hcz
            unfold H.hdV at kM
            go_upto_region 17 with (go_at_call 13; go_loud (refine kM.mono ?_; rintro e v2 ⟨rfl, hb3⟩))
            have hb4 := hb3.alloc hb3.size (.cells #[.int .i64 0, .int .u64 0] 34)
            have hH3 := hH2.kept hb4
            have hz3 := (hb4.block _ (heap_lt hz2)).trans hz2
            have hy3 := (hb4.block _ (heap_lt hy2)).trans hy2
            have hw3 := heap_alloc_new v2 (.cells #[.int .i64 0, .int .u64 0] 34)
            have hbl3 := hbl2.trans (hb4.mono hH2.hp.size)
            clear kM c0 c2 c4 y0 y1 hC
            generalize v2.alloc (.cells #[.int .i64 0, .int .u64 0] 34) = W3 at hH3 hz3 hy3 hw3 hbl3 ⊢
            generalize v2.heap.size = z3 at hw3 ⊢
            have c2 : W3.cell? ⟨z1, 2, none⟩ = some (.int .i64 x.k) := by rw [cell_of hz3]; rfl
            have c4 : W3.cell? ⟨z1, 4, none⟩ = some (.int .i64 x.n) := by rw [cell_of hz3]; rfl
            have kO := rmakec_bad hH3.oh x.k x.n hcz
            go_upto_region 18 with (go_at_call 14; go_loud (refine kO.mono ?_; rintro e v3 ⟨rfl, hb5⟩))
            have hb6 := hb5.alloc hb5.size (.cells #[.int .i64 0, .int .u64 0] 34)
            have hH4 := hH3.kept hb6
            have hy4 := (hb6.block _ (heap_lt hy3)).trans hy3
            have hw4 := (hb6.block _ (heap_lt hw3)).trans hw3
            have hv4 := heap_alloc_new v3 (.cells #[.int .i64 0, .int .u64 0] 34)
            have hbl4 := hbl3.trans (hb6.mono hH3.hp.size)
            clear kO c2 c4
            generalize v3.alloc (.cells #[.int .i64 0, .int .u64 0] 34) = W4 at hH4 hy4 hw4 hv4 hbl4 ⊢
            generalize v3.heap.size = z4 at hv4 ⊢
            have a0 := (cell_of hw4 0).trans (show _ = some (Value.int .i64 0) from rfl)
            have a1 := (cell_of hw4 1).trans (show _ = some (Value.int .u64 0) from rfl)
            have b0 := (cell_of hv4 0).trans (show _ = some (Value.int .i64 0) from rfl)
            have b1 := (cell_of hv4 1).trans (show _ = some (Value.int .u64 0) from rfl)
            have qn := fun W => neqH 0 0 0 0 W
            have hZ := hH4.more (Nat.le_succ i) (by omega)
            go_wp2
            all_goals go_meet
            exact ⟨used, N, M, ns, A, K, O, X, vO, vS, vX, vT, Y, p, c, ps, pg, rfl, hZ, hy4, hbl4⟩
          have hcp : 0 < clsM x.n := by have := (clsM_bd x.n).1; omega
          have hn1 : 1 ≤ x.n ∧ x.n ≤ 128 := by have := clsM_pos x.n; rw [decide_eq_true hcp] at this; exact of_decide_eq_true this.symm
          by_cases hfull : a0 < used + clsM x.n
          · as_aux_lemma =>
            have kM := make_full W2 _ _ _ _ _ _ _ _ _ _ hH2.hp hH2.tab h0 x.k x.n hcp hfull
            unfold H.hdV at kM
            go_upto_region 17 with (go_at_call 13; go_loud (refine kM.mono ?_; rintro e v2 ⟨rfl, hp1, hF1⟩))
            have hka : Kd vX vT W2 v2 vX vT := Kd.fq hH2.hp hF1
            have hHa := hH2.kd hp1 (hH2.oh.fq hH2.hp hF1) hka hF1.bel (Nat.le_refl i)
            have hza := hka.keep _ _ 36 (.inl rfl) (fun e => by obtain ⟨T, t1, _, _⟩ := hH2.oh.tb.ex; obtain ⟨c', e'⟩ := row_cells t1.rowX e.symm; rw [hz2] at e'; cases e') (fun e => by obtain ⟨T, t1, _, _⟩ := hH2.oh.tb.ex; obtain ⟨c', e'⟩ := row_cells t1.rowT e.symm; rw [hz2] at e'; cases e') hz2
            have hya := hka.keep _ _ 34 (.inr rfl) (fun e => by have := hzX.1 _ e.symm; omega) (fun e => by have := hzX.2 _ e.symm; omega) hy2
            have hb4 := (Below.refl v2.heap.size v2).alloc (Nat.le_refl _) (.cells #[.int .i64 0, .int .u64 0] 34)
            have hH3 := hHa.kept hb4
            have hz3 := (hb4.block _ (heap_lt hza)).trans hza
            have hy3 := (hb4.block _ (heap_lt hya)).trans hya
            have hw3 := heap_alloc_new v2 (.cells #[.int .i64 0, .int .u64 0] 34)
            have hbl3 := (hbl2.trans hF1.bel).trans (hb4.mono hHa.hp.size)
            clear kM c0 c2 c4 y0 y1 hC
            generalize v2.alloc (.cells #[.int .i64 0, .int .u64 0] 34) = W3 at hH3 hz3 hy3 hw3 hbl3 ⊢
            generalize v2.heap.size = z3 at hw3 ⊢
            have c2 : W3.cell? ⟨z1, 2, none⟩ = some (.int .i64 x.k) := by rw [cell_of hz3]; rfl
            have c4 : W3.cell? ⟨z1, 4, none⟩ = some (.int .i64 x.n) := by rw [cell_of hz3]; rfl
            have kO := rmakec_full hH3.oh x.k x.n hcz hfull
            go_upto_region 18 with (go_at_call 14; go_loud (refine kO.mono ?_; rintro e v3 ⟨rfl, hb5⟩))
            have hb6 := hb5.alloc hb5.size (.cells #[.int .i64 0, .int .u64 0] 34)
            have hH4 := hH3.kept hb6
            have hy4 := (hb6.block _ (heap_lt hy3)).trans hy3
            have hw4 := (hb6.block _ (heap_lt hw3)).trans hw3
            have hv4 := heap_alloc_new v3 (.cells #[.int .i64 0, .int .u64 0] 34)
            have hbl4 := hbl3.trans (hb6.mono hH3.hp.size)
            clear kO c2 c4
            generalize v3.alloc (.cells #[.int .i64 0, .int .u64 0] 34) = W4 at hH4 hy4 hw4 hv4 hbl4 ⊢
            generalize v3.heap.size = z4 at hv4 ⊢
            have a0 := (cell_of hw4 0).trans (show _ = some (Value.int .i64 0) from rfl)
            have a1 := (cell_of hw4 1).trans (show _ = some (Value.int .u64 0) from rfl)
            have b0 := (cell_of hv4 0).trans (show _ = some (Value.int .i64 0) from rfl)
            have b1 := (cell_of hv4 1).trans (show _ = some (Value.int .u64 0) from rfl)
            have qn := fun W => neqH 0 0 0 0 W
            have hZ := hH4.more (Nat.le_succ i) (by omega)
            go_wp2
            all_goals go_meet
            exact ⟨used, N, M, ns, A, K, O, X, vO, vS, vX, vT, Y, p, c, ps, pg, rfl, hZ, hy4, hbl4⟩
          · as_aux_lemma =>
            obtain ⟨sz, hsz⟩ : ∃ sz : Nat, x.n = (sz : Int) := ⟨x.n.toNat, by omega⟩
            rw [hsz] at c4
            have hs1 : 1 ≤ sz ∧ sz ≤ 128 := by omega
            have hu1 : used + clsM sz ≤ a0 := by rw [← hsz]; omega
            have kM := hmake_ok W2 _ _ _ _ _ _ _ _ _ _ hH2.hp hH2.tab h0 x.k sz hs1 hu1 (by omega)
            unfold H.hdV at kM
            have hNb : ∀ k, N k ≤ 1000000 := fun k => by have := hH2.hp.tb.bd k; omega
            replace hsz : Hid _ := hsz
            go_upto_region 17 with (go_at_call 13; go_loud (refine kM.mono ?_; rintro e v2 ⟨k, rfl, hMk, hmin, ⟨ns', A', K', hp1⟩, hF1⟩))
            have hka : Kd vX vT W2 v2 vX vT := Kd.fq hH2.hp hF1
            have hO1 := hH2.oh.fq hH2.hp hF1
            have hza := hka.keep _ _ 36 (.inl rfl) (fun e => by obtain ⟨T, t1, _, _⟩ := hH2.oh.tb.ex; obtain ⟨c', e'⟩ := row_cells t1.rowX e.symm; rw [hz2] at e'; cases e') (fun e => by obtain ⟨T, t1, _, _⟩ := hH2.oh.tb.ex; obtain ⟨c', e'⟩ := row_cells t1.rowT e.symm; rw [hz2] at e'; cases e') hz2
            have hya := hka.keep _ _ 34 (.inr rfl) (fun e => by have := hzX.1 _ e.symm; omega) (fun e => by have := hzX.2 _ e.symm; omega) hy2
            obtain ⟨gn, hgn⟩ : ∃ gn : Int, ((N k : Int) + 1) = gn := ⟨_, rfl⟩
            simp only [hgn]
            have hb4 := (Below.refl v2.heap.size v2).alloc (Nat.le_refl _) (.cells #[.int .i64 k, .int .u64 gn] 34)
            have hO3 := hO1.below hb4
            have hp3 := hp1.kept hb4
            have hz3 := (hb4.block _ (heap_lt hza)).trans hza
            have hy3 := (hb4.block _ (heap_lt hya)).trans hya
            have hw3 := heap_alloc_new v2 (.cells #[.int .i64 k, .int .u64 gn] 34)
            have hk3 : Kd vX vT W2 (v2.alloc (.cells #[.int .i64 k, .int .u64 gn] 34)) vX vT := hka.trans (Kd.bel hb4)
            have hb23 : Below B W2 (v2.alloc (.cells #[.int .i64 k, .int .u64 gn] 34)) := hF1.bel.trans (hb4.mono hp1.size)
            have hzz : z2 < v2.heap.size := heap_lt hya
            clear kM c0 c2 c4 y0 y1 hC
            generalize v2.alloc (.cells #[.int .i64 k, .int .u64 gn] 34) = W3 at hO3 hp3 hz3 hy3 hw3 hk3 hb23 ⊢
            generalize v2.heap.size = z3 at hw3 hzz ⊢
            have c2 : W3.cell? ⟨z1, 2, none⟩ = some (.int .i64 x.k) := by rw [cell_of hz3]; rfl
            have c4 : W3.cell? ⟨z1, 4, none⟩ = some (.int .i64 sz) := by rw [cell_of hz3, ← hsz.out]; rfl
            have kO := rmakec_ok hO3 x.k sz hs1 hu1 (by omega) hNb
            go_upto_region 18 with (go_at_call 14; go_loud (refine kO.mono ?_; rintro e v3 ⟨k', rfl, hMk', hmin', ⟨O2, X2, vO2, vS2, vX2, vT2, hO4, fX, fT⟩, hF2⟩))
            have hkk : k' = k := by
              rcases Nat.lt_trichotomy k' k with q | q | q
              · have := hmin k' q; rw [hMk'] at this; cases this
              · exact q
              · have := hmin' k q; rw [hMk] at this; cases this
            rw [hkk] at hO4
            rw [hkk]
            clear hkk hMk' hmin'
            simp only [hgn]
            have hkb : Kd vX vT W3 v3 vX2 vT2 := Kd.fo hO3 hF2 fX fT
            have hp4 := Hp.fo hO3 hF2 hp3
            have hHb := hH2.kd hp4 hO4 (hk3.trans hkb) (hb23.trans hF2.bel) (Nat.le_succ i)
            have hyb := hkb.keep _ _ 34 (.inr rfl) (fun e => by have := hzX.1 _ e.symm; omega) (fun e => by have := hzX.2 _ e.symm; omega) hy3
            have hwb := hkb.keep _ _ 34 (.inr rfl) (fun e => by have := hzX.1 _ e.symm; omega) (fun e => by have := hzX.2 _ e.symm; omega) hw3
            have hb6 := (Below.refl v3.heap.size v3).alloc (Nat.le_refl _) (.cells #[.int .i64 k, .int .u64 gn] 34)
            have hH4 := hHb.kept hb6
            have hy4 := (hb6.block _ (heap_lt hyb)).trans hyb
            have hw4 := (hb6.block _ (heap_lt hwb)).trans hwb
            have hv4 := heap_alloc_new v3 (.cells #[.int .i64 k, .int .u64 gn] 34)
            have hbl4 : Below B w (v3.alloc (.cells #[.int .i64 k, .int .u64 gn] 34)) := ((hbl2.trans hb23).trans hF2.bel).trans (hb6.mono hHb.hp.size)
            have hX2 : vX2.ownBlock ≠ some z2 ∧ vT2.ownBlock ≠ some z2 := ⟨fun e => by
              rcases fX _ e with q | q
              · have := hzX.1 _ q; omega
              · have := heap_lt hy3; omega, fun e => by
              rcases fT _ e with q | q
              · have := hzX.2 _ q; omega
              · have := heap_lt hy3; omega⟩
            have hYz : (Value.slice p Y.length c).ownBlock ≠ some z2 := fun e => by have := hY2 _ e; omega
            clear kO c2 c4
            generalize v3.alloc (.cells #[.int .i64 k, .int .u64 gn] 34) = W4 at hH4 hy4 hw4 hv4 hbl4 ⊢
            generalize v3.heap.size = z4 at hv4 ⊢
            have a0' := (cell_of hw4 0).trans (show _ = some (Value.int .i64 k) from rfl)
            have a1' := (cell_of hw4 1).trans (show _ = some (Value.int .u64 gn) from rfl)
            have b0' := (cell_of hv4 0).trans (show _ = some (Value.int .i64 k) from rfl)
            have b1' := (cell_of hv4 1).trans (show _ = some (Value.int .u64 gn) from rfl)
            have qn := fun W => neqH k gn k gn W
            have qb : (!(((k : Int) == (k : Int)) && (gn == gn))) = false := by simp
            go_upto_region 21 with fail
            clear b0' b1' qn qb
            go_upto_region 22 with (at_builtin; refine wpList_append_own_at _ rfl _ _ 31 rfl B 34 i34 (.agg #[.int .i64 0, .int .u64 0]) 2 16 Tryd.underlying31 hi34 hzi0 hzi1 hzi2 rfl (by decide) (.slice p Y.length c) Y.length (hCells Y) rfl (hH4.row.alloc _) _ 1 1 [.int .i64 k, .int .u64 gn] rfl rfl (news_new _ _ _ _ rfl) (by simp [Value.oneCell']) (by simp [maxLen]; omega) (by omega) (by have := hH4.hp.size; simp; omega) ?_; go_loud (intro v' W5 hown hgrow hnil hloc; obtain ⟨p', c', rfl⟩ : ∃ p cap, v' = .slice p (Y.length + 1) cap := H.own_shape hown))
            have hk5 : ∀ j, j < W4.heap.size → some j ≠ (Value.slice p Y.length c).ownBlock → W5.heap[j]? = W4.heap[j]? := fun j hj hne => (hgrow.block j (by simp; omega) hne).trans (Below.heap_alloc _ _ _ hj)
            have hb5 : Below B W4 W5 := ((Below.refl B W4).alloc hH4.hp.size _).grown hgrow (by have := hH4.hp.size; simp; omega) (fun k e => (hH4.row.lt k e).1)
            have hfr : ∀ g, (Value.slice p' (Y.length + 1) c').ownBlock = some g → (Value.slice p Y.length c).ownBlock = some g ∨ W4.heap.size ≤ g := fun g hg => by
              rcases hloc with e | e
              · exact .inl (by rw [← e]; exact hg)
              · rw [hg] at e
                simp at e
                exact .inr (by omega)
            have hY' : (Y ++ [((k : Int), N k + 1)]).length = Y.length + 1 := by simp
            have hH5 := hH4.app (Y' := Y ++ [((k : Int), N k + 1)]) (va' := .slice p' (Y.length + 1) c') hk5 hb5 (by
              rw [hY', hCells_app]
              simp only [hCells]
              rw [show ((N k + 1 : Nat) : Int) = gn by rw [← hgn]; simp]
              exact hown) (by have := hH1.len; simp; omega) hfr
            have hy5 := (hk5 z2 (heap_lt hy4) (fun e => hYz e.symm)).trans hy4
            have hYw : (Value.slice p Y.length c).ownBlock ≠ some z3 := fun e => by have := hY2 _ e; omega
            have hw5 := (hk5 z3 (heap_lt hw4) (fun e => hYw e.symm)).trans hw4
            clear a0' a1'
            have a0' := (cell_of hw5 0).trans (show _ = some (Value.int .i64 k) from rfl)
            have a1' := (cell_of hw5 1).trans (show _ = some (Value.int .u64 gn) from rfl)
            have y0 := (cell_of hy5 0).trans (show _ = some (Value.int .i64 ps) from rfl)
            have y1 := (cell_of hy5 1).trans (show _ = some (Value.int .u64 (pg : Int)) from rfl)
            have f0 := froz_of hy5 0
            have f1 := froz_of hy5 1
            have hk6 : ∀ j, j ≠ z2 → ((W5.setCell ⟨z2, 0, none⟩ (.int .i64 k)).setCell ⟨z2, 1, none⟩ (.int .u64 gn)).heap[j]? = W5.heap[j]? := fun j hj => by rw [Below.heap_setCell _ _ _ _ hj, Below.heap_setCell _ _ _ _ hj]
            have hb6' : Below B W5 ((W5.setCell ⟨z2, 0, none⟩ (.int .i64 k)).setCell ⟨z2, 1, none⟩ (.int .u64 gn)) := ((Below.refl B W5).setCell hBz2 _).setCell hBz2 _
            have hZ := hH5.box hy5 (fun e => by
              rcases hfr _ e with q | q
              · exact hYz q
              · have := heap_lt hy4; omega) hX2.1 hX2.2 hk6 hb6'
            have hyz : ((W5.setCell ⟨z2, 0, none⟩ (.int .i64 k)).setCell ⟨z2, 1, none⟩ (.int .u64 gn)).heap[z2]? = some (.cells #[.int .i64 k, .int .u64 gn] 34 (0, 0)) := by
              have e1 := heap_setCell_same W5 z2 0 _ _ (.int .i64 k) hy5
              have e2 := heap_setCell_same _ z2 1 _ _ (.int .u64 gn) e1
              simpa using e2
            have hbz := (hbl4.trans hb5).trans hb6'
            go_wp2
            all_goals go_meet
            exact ⟨_, _, _, _, _, _, _, _, _, _, _, _, Y ++ [((k : Int), N k + 1)], p', c', (k : Int), N k + 1, by rw [hY'], by rw [hY']; exact hZ, by rw [show ((N k + 1 : Nat) : Int) = gn by rw [← hgn]; simp]; exact hyz, hbz⟩
        · as_aux_lemma =>
          have d0 : (x.d == 0) = false := by simpa using hd0
          have c1 := hC 1 (.int .i64 x.o) rfl
          have c3 := hC 3 (.int .i64 x.a) rfl
          have c5 := hC 5 (.string x.s) rfl
          have c6 := hC 6 (.int .i64 x.h) rfl
          have c7 := hC 7 (.int .u64 x.g) rfl
          have kD := hdoes_any W2 B q b r t a0 used N M ns A K O X vO vS vX vT i i hH2.hp hH2.oh hH2.tab hH2.z (by omega) x hxo ps pg
          simp only [spV] at kD
          go_wp2_with (go_at_call 15; go_loud (refine kD.mono ?_; rintro e v2 ⟨rfl, ⟨used2, M2, ns2, A2, K2, O2, X2, vO2, vS2, vX2, vT2, hp2, ho2, hk2⟩, hb3⟩))
          have hZ := hH2.kd hp2 (ho2.more (Nat.le_succ i) (by omega)) hk2 hb3 (Nat.le_succ i)
          have hyz := hk2.keep _ _ 34 (.inr rfl) (fun e => by have := hzX.1 _ e.symm; omega) (fun e => by have := hzX.2 _ e.symm; omega) hy2
          have hbz := hbl2.trans hb3
          go_wp2
          all_goals go_meet
          exact ⟨_, _, _, _, _, _, _, _, _, _, _, _, Y, p, c, ps, pg, rfl, hZ, hyz, hbz⟩
      case rest =>
        obtain ⟨used, N, M, ns, A, K, O, X, vO, vS, vX, vT, Y, p, c, ps, pg, rfl, hZ, hyz, hbz⟩ := hcut
        clear hH2 hbl2 hy2 hz2 c0 c2 c4 y0 y1 hC hzX hY2 hH hbl1 hH1 hbl hb1
        have hwz := hZ.hp.size
        have y0 := (cell_of hyz 0).trans (show _ = some (Value.int .i64 ps) from rfl)
        have y1 := (cell_of hyz 1).trans (show _ = some (Value.int .u64 (pg : Int)) from rfl)
        have kc := count_any wc B q a0 used N M ns A K (i + 1) hZ.hp ps pg
        obtain ⟨ct, hct⟩ : ∃ ct, ctM M ps pg = ct := ⟨_, rfl⟩
        obtain ⟨kd, hkd⟩ : ∃ kd, kdM M ps pg = kd := ⟨_, rfl⟩
        obtain ⟨lv, hlv⟩ : ∃ lv, liveB M ps pg = lv := ⟨_, rfl⟩
        rw [hct, hlv] at kc
        go_upto_region 26 with (go_at_call 16; refine kc.mono ?_; rintro e v4 ⟨rfl, hb4⟩)
        have hZ4 := hZ.kept hb4
        have hz4 := (hb4.block _ (heap_lt hyz)).trans hyz
        have hbl4 := hbz.trans (hb4.mono hwz)
        clear kc y0 y1
        have y0 := (cell_of hz4 0).trans (show _ = some (Value.int .i64 ps) from rfl)
        have y1 := (cell_of hz4 1).trans (show _ = some (Value.int .u64 (pg : Int)) from rfl)
        have kk := kind_any v4 B q a0 used N M ns A K (i + 1) hZ4.hp ps pg
        rw [hkd, hlv] at kk
        go_upto_region 27 with (go_at_call 17; refine kk.mono ?_; rintro e v5 ⟨rfl, hb5⟩)
        have hZ5 := hZ4.kept hb5
        have hz5 := (hb5.block _ (heap_lt hz4)).trans hz4
        have hbl5 := hbl4.trans (hb5.mono hZ4.hp.size)
        clear kk y0 y1
        have y0 := (cell_of hz5 0).trans (show _ = some (Value.int .i64 ps) from rfl)
        have y1 := (cell_of hz5 1).trans (show _ = some (Value.int .u64 (pg : Int)) from rfl)
        clear hb4 hb5 hz4 hZ4 hbl4 hyz hbz hZ
        obtain ⟨pO, cO, rfl⟩ := H.own_shape hZ5.oh.row
        obtain ⟨pX, cX, rfl⟩ : ∃ pX cX, vX = .slice pX X.length cX := by
          obtain ⟨T6, hRf, -, -⟩ := hZ5.oh.tb.ex
          exact H.own_shape hRf.rowX
        cases lv with
        | false =>
          as_aux_lemma =>
          have ko := oh_no hZ5.oh hlv
          go_upto_region 28 with (go_at_call 18; go_loud (refine ko.mono ?_; rintro e v6 ⟨rfl, hb6⟩))
          have hZ6 := hZ5.kept hb6
          have hz6 := (hb6.block _ (heap_lt hz5)).trans hz5
          have hbl6 := hbl5.trans (hb6.mono hZ5.hp.size)
          have ocl := hZ6.oh.cells
          obtain ⟨T6, hRf, hNt6, hTl6⟩ := hZ6.oh.tb.ex
          have tcl := hRf.cells
          have s0 : v6.cell? ⟨b, 0, none⟩ = some (.pointer (some ⟨r, 0, none⟩)) := by rw [cell_of ocl]; rfl
          have s1 : v6.cell? ⟨b, 1, none⟩ = some (.pointer (some ⟨t, 0, none⟩)) := by rw [cell_of ocl]; rfl
          have s2 : v6.cell? ⟨b, 2, none⟩ = some (.slice pO O.length cO) := by rw [cell_of ocl]; rfl
          have s3 : v6.cell? ⟨t, 0, none⟩ = some (.slice pX X.length cX) := by rw [cell_of tcl]; rfl
          have l4 : decide ((0 : Int) ≤ (-1 : Int)) = false := by decide
          have hZ6d := hZ6.kept (Below.refl _ v6).drew
          have kU := hused_any v6.drew B q a0 used N M ns A K (i + 1) hZ6d.hp
          have kS := rused_any v6.drew B r a0 used (bM M) _ (i + 1) hZ6d.oh.sl
          have kRo := hroom_any v6.drew B q a0 used N M ns A K (i + 1) hZ6d.hp
          have kL := hlive_any v6.drew B q a0 used N M ns A K (i + 1) hZ6d.hp X hZ6.oh.tb.mt
          have l6 : (used == used) = true := by simp
          have l7 : (a0 == a0) = true := by simp
          have l8 : ((X.length : Int) == (X.length : Int)) = true := by simp
          clear ko ocl tcl hRf
          go_upto_region 28 with fail
          try dsimp only [List.append]
          try simp only [List.append_eq, List.cons_append, List.nil_append]
          refine wp_region_held_drew (S := fun w' => w'.cell? ⟨b, 0, none⟩ = some (.pointer (some ⟨r, 0, none⟩)) ∧ w'.cell? ⟨b, 1, none⟩ = some (.pointer (some ⟨t, 0, none⟩)) ∧ w'.cell? ⟨b, 2, none⟩ = some (.slice pO O.length cO) ∧ w'.cell? ⟨t, 0, none⟩ = some (.slice pX X.length cX)) (by kernel_rfl) ⟨s0, s1, s2, s3⟩ (fun hHeld => ?_)
          refine wpAnyH_take (i := 0) (oi := { dst := some 124, op := Go.Op.move (Go.Operand.tmp 17), type := 4, pos := "law.go:118", after := #[], guard := none }) (v := ?v0) rfl (by kernel_rfl) (by kernel_rfl) (by kernel_rfl) (fun _ _ _ h => h) (Or.inl ⟨by rfl, ?hy0⟩) (by assumption) ?rest0
          case hy0 => (intro w hSw; (try dsimp only at hSw); first | (go_simp; done) | (go_simp; with_reducible rfl))
          try simp only [Act.put, List.setIfInBounds_toArray, List.set_cons_zero, List.set_cons_succ]
          refine wpAnyH_take (i := 1) (oi := { dst := some 125, op := Go.Op.move (Go.Operand.tmp 20), type := 3, pos := "law.go:118", after := #[], guard := none }) (v := ?v1) rfl (by kernel_rfl) (by kernel_rfl) (by kernel_rfl) (fun _ _ _ h => h) (Or.inl ⟨by rfl, ?hy1⟩) (by assumption) ?rest1
          case hy1 => (intro w hSw; (try dsimp only at hSw); first | (go_simp; done) | (go_simp; with_reducible rfl))
          try simp only [Act.put, List.setIfInBounds_toArray, List.set_cons_zero, List.set_cons_succ]
          refine wpAnyH_take (i := 2) (oi := { dst := some 126, op := Go.Op.binOp Go.BinOp.geq 3 (Go.Operand.tmp 125) (Go.Operand.const (Go.Value.int Go.IntKind.i64 0)) 3, type := 4, pos := "law.go:118", after := #[{ on := 1, ground := Go.Ground.data }], guard := none }) (v := ?v2) rfl (by kernel_rfl) (by kernel_rfl) (by kernel_rfl) (fun _ _ _ h => h) (Or.inl ⟨by rfl, ?hy2⟩) (by assumption) ?rest2
          case hy2 => (intro w hSw; (try dsimp only at hSw); first | (go_simp; done) | (go_simp; with_reducible rfl))
          try simp only [Act.put, List.setIfInBounds_toArray, List.set_cons_zero, List.set_cons_succ]
          refine wpAnyH_take (i := 3) (oi := { dst := some 127, op := Go.Op.binOp Go.BinOp.neq 4 (Go.Operand.tmp 124) (Go.Operand.tmp 126) 4, type := 4, pos := "law.go:118", after := #[{ on := 0, ground := Go.Ground.data }, { on := 2, ground := Go.Ground.data }], guard := none }) (v := ?v3) rfl (by kernel_rfl) (by kernel_rfl) (by kernel_rfl) (fun _ _ _ h => h) (Or.inl ⟨by rfl, ?hy3⟩) (by assumption) ?rest3
          case hy3 => (intro w hSw; (try dsimp only at hSw); first | (go_simp; done) | (go_simp; with_reducible rfl))
          try simp only [Act.put, List.setIfInBounds_toArray, List.set_cons_zero, List.set_cons_succ]
          refine wpAnyH_take (i := 4) (oi := { dst := some 128, op := Go.Op.move (Go.Operand.tmp 127), type := 4, pos := "law.go:118", after := #[{ on := 3, ground := Go.Ground.data }], guard := none }) (v := ?v4) rfl (by kernel_rfl) (by kernel_rfl) (by kernel_rfl) (fun _ _ _ h => h) (Or.inl ⟨by rfl, ?hy4⟩) (by assumption) ?rest4
          case hy4 => (intro w hSw; (try dsimp only at hSw); first | (go_simp; done) | (go_simp; with_reducible rfl))
          try simp only [Act.put, List.setIfInBounds_toArray, List.set_cons_zero, List.set_cons_succ]
          refine wpAnyH_take (i := 5) (oi := { dst := some 129, op := Go.Op.move (Go.Operand.tmp 19), type := 4, pos := "law.go:118", after := #[{ on := 4, ground := Go.Ground.guard }], guard := some (4, false) }) (v := ?v5) rfl (by kernel_rfl) (by kernel_rfl) (by kernel_rfl) (fun _ _ _ h => h) (Or.inl ⟨by rfl, ?hy5⟩) (by assumption) ?rest5
          case hy5 => (intro w hSw; (try dsimp only at hSw); first | (go_simp; done) | (go_simp; with_reducible rfl))
          try simp only [Act.put, List.setIfInBounds_toArray, List.set_cons_zero, List.set_cons_succ]
          refine wpAnyH_take (i := 6) (oi := { dst := some 130, op := Go.Op.move (Go.Operand.tmp 17), type := 4, pos := "law.go:118", after := #[{ on := 4, ground := Go.Ground.guard }], guard := some (4, false) }) (v := ?v6) rfl (by kernel_rfl) (by kernel_rfl) (by kernel_rfl) (fun _ _ _ h => h) (Or.inl ⟨by rfl, ?hy6⟩) (by assumption) ?rest6
          case hy6 => (intro w hSw; (try dsimp only at hSw); first | (go_simp; done) | (go_simp; with_reducible rfl))
          try simp only [Act.put, List.setIfInBounds_toArray, List.set_cons_zero, List.set_cons_succ]
          refine wpAnyH_take (i := 7) (oi := { dst := some 131, op := Go.Op.binOp Go.BinOp.neq 4 (Go.Operand.tmp 129) (Go.Operand.tmp 130) 4, type := 4, pos := "law.go:118", after := #[{ on := 5, ground := Go.Ground.data }, { on := 6, ground := Go.Ground.data }, { on := 4, ground := Go.Ground.guard }], guard := some (4, false) }) (v := ?v7) rfl (by kernel_rfl) (by kernel_rfl) (by kernel_rfl) (fun _ _ _ h => h) (Or.inl ⟨by rfl, ?hy7⟩) (by assumption) ?rest7
          case hy7 => (intro w hSw; (try dsimp only at hSw); first | (go_simp; done) | (go_simp; with_reducible rfl))
          try simp only [Act.put, List.setIfInBounds_toArray, List.set_cons_zero, List.set_cons_succ]
          refine wpAnyH_take (i := 8) (oi := { dst := some 132, op := Go.Op.pick (Go.Operand.tmp 128) (Go.Operand.const (Go.Value.bool true)) (Go.Operand.tmp 131), type := 4, pos := "law.go:118", after := #[{ on := 4, ground := Go.Ground.data }, { on := 7, ground := Go.Ground.data }], guard := none }) (v := ?v8) rfl (by kernel_rfl) (by kernel_rfl) (by kernel_rfl) (fun _ _ _ h => h) (Or.inl ⟨by rfl, ?hy8⟩) (by assumption) ?rest8
          case hy8 => (intro w hSw; (try dsimp only at hSw); first | (go_simp; done) | (go_simp; with_reducible rfl))
          try simp only [Act.put, List.setIfInBounds_toArray, List.set_cons_zero, List.set_cons_succ]
          refine wpAnyH_take (i := 9) (oi := { dst := some 133, op := Go.Op.move (Go.Operand.tmp 132), type := 4, pos := "law.go:118", after := #[{ on := 8, ground := Go.Ground.data }, { on := 4, ground := Go.Ground.chain }], guard := none }) (v := ?v9) rfl (by kernel_rfl) (by kernel_rfl) (by kernel_rfl) (fun _ _ _ h => h) (Or.inl ⟨by rfl, ?hy9⟩) (by assumption) ?rest9
          case hy9 => (intro w hSw; (try dsimp only at hSw); first | (go_simp; done) | (go_simp; with_reducible rfl))
          try simp only [Act.put, List.setIfInBounds_toArray, List.set_cons_zero, List.set_cons_succ]
          refine wpAnyH_take (i := 10) (oi := { dst := some 134, op := Go.Op.move (Go.Operand.tmp 17), type := 4, pos := "law.go:118", after := #[{ on := 9, ground := Go.Ground.guard }], guard := some (9, false) }) (v := ?v10) rfl (by kernel_rfl) (by kernel_rfl) (by kernel_rfl) (fun _ _ _ h => h) (Or.inl ⟨by rfl, ?hy10⟩) (by assumption) ?rest10
          case hy10 => (intro w hSw; (try dsimp only at hSw); first | (go_simp; done) | (go_simp; with_reducible rfl))
          try simp only [Act.put, List.setIfInBounds_toArray, List.set_cons_zero, List.set_cons_succ]
          refine wpAnyH_take (i := 11) (oi := { dst := some 135, op := Go.Op.move (Go.Operand.tmp 134), type := 4, pos := "law.go:118", after := #[{ on := 10, ground := Go.Ground.data }, { on := 9, ground := Go.Ground.chain }, { on := 9, ground := Go.Ground.guard }], guard := some (9, false) }) (v := ?v11) rfl (by kernel_rfl) (by kernel_rfl) (by kernel_rfl) (fun _ _ _ h => h) (Or.inl ⟨by rfl, ?hy11⟩) (by assumption) ?rest11
          case hy11 => (intro w hSw; (try dsimp only at hSw); first | (go_simp; done) | (go_simp; with_reducible rfl))
          try simp only [Act.put, List.setIfInBounds_toArray, List.set_cons_zero, List.set_cons_succ]
          refine wpAnyH_take (i := 12) (oi := { dst := some 136, op := Go.Op.move (Go.Operand.tmp 16), type := 3, pos := "law.go:118", after := #[{ on := 11, ground := Go.Ground.guard }], guard := some (11, true) }) (v := undef) rfl (by kernel_rfl) (by kernel_rfl) (by kernel_rfl) (fun _ _ _ h => h) (Or.inr ⟨by rfl, rfl⟩) (by assumption) ?_
          try simp only [Act.put, List.setIfInBounds_toArray, List.set_cons_zero, List.set_cons_succ]
          refine wpAnyH_take (i := 13) (oi := { dst := some 137, op := Go.Op.move (Go.Operand.tmp 7), type := 29, pos := "law.go:118", after := #[{ on := 11, ground := Go.Ground.guard }], guard := some (11, true) }) (v := undef) rfl (by kernel_rfl) (by kernel_rfl) (by kernel_rfl) (fun _ _ _ h => h) (Or.inr ⟨by rfl, rfl⟩) (by assumption) ?_
          try simp only [Act.put, List.setIfInBounds_toArray, List.set_cons_zero, List.set_cons_succ]
          refine wpAnyH_take (i := 14) (oi := { dst := some 138, op := Go.Op.nilCheck (Go.Operand.tmp 137), type := 0, pos := "law.go:118", after := #[{ on := 13, ground := Go.Ground.data }, { on := 11, ground := Go.Ground.guard }], guard := some (11, true) }) (v := undef) rfl (by kernel_rfl) (by kernel_rfl) (by kernel_rfl) (fun _ _ _ h => h) (Or.inr ⟨by rfl, rfl⟩) (by assumption) ?_
          try simp only [Act.put, List.setIfInBounds_toArray, List.set_cons_zero, List.set_cons_succ]
          refine wpAnyH_take (i := 15) (oi := { dst := some 139, op := Go.Op.fieldAddr 50 (Go.Operand.tmp 138) 2, type := 0, pos := "law.go:118", after := #[{ on := 14, ground := Go.Ground.data }, { on := 11, ground := Go.Ground.guard }], guard := some (11, true) }) (v := undef) rfl (by kernel_rfl) (by kernel_rfl) (by kernel_rfl) (fun _ _ _ h => h) (Or.inr ⟨by rfl, rfl⟩) (by assumption) ?_
          try simp only [Act.put, List.setIfInBounds_toArray, List.set_cons_zero, List.set_cons_succ]
          refine wpAnyH_take (i := 16) (oi := { dst := some 140, op := Go.Op.load 48 (Go.Operand.tmp 139), type := 48, pos := "law.go:118", after := #[{ on := 15, ground := Go.Ground.data }, { on := 11, ground := Go.Ground.guard }], guard := some (11, true) }) (v := undef) rfl (by kernel_rfl) (by kernel_rfl) (by kernel_rfl) (fun _ _ _ h => h) (Or.inr ⟨by rfl, rfl⟩) (by assumption) ?_
          try simp only [Act.put, List.setIfInBounds_toArray, List.set_cons_zero, List.set_cons_succ]
          refine wpAnyH_take (i := 17) (oi := { dst := some 141, op := Go.Op.move (Go.Operand.tmp 20), type := 3, pos := "law.go:118", after := #[{ on := 11, ground := Go.Ground.guard }], guard := some (11, true) }) (v := undef) rfl (by kernel_rfl) (by kernel_rfl) (by kernel_rfl) (fun _ _ _ h => h) (Or.inr ⟨by rfl, rfl⟩) (by assumption) ?_
          try simp only [Act.put, List.setIfInBounds_toArray, List.set_cons_zero, List.set_cons_succ]
          refine wpAnyH_take (i := 18) (oi := { dst := some 142, op := Go.Op.indexAddr 48 (Go.Operand.tmp 140) (Go.Operand.tmp 141), type := 0, pos := "law.go:118", after := #[{ on := 16, ground := Go.Ground.data }, { on := 17, ground := Go.Ground.data }, { on := 11, ground := Go.Ground.guard }], guard := some (11, true) }) (v := undef) rfl (by kernel_rfl) (by kernel_rfl) (by kernel_rfl) (fun _ _ _ h => h) (Or.inr ⟨by rfl, rfl⟩) (by assumption) ?_
          try simp only [Act.put, List.setIfInBounds_toArray, List.set_cons_zero, List.set_cons_succ]
          refine wpAnyH_take (i := 19) (oi := { dst := some 143, op := Go.Op.fieldAddr 45 (Go.Operand.tmp 142) 2, type := 0, pos := "law.go:118", after := #[{ on := 18, ground := Go.Ground.data }, { on := 11, ground := Go.Ground.guard }], guard := some (11, true) }) (v := undef) rfl (by kernel_rfl) (by kernel_rfl) (by kernel_rfl) (fun _ _ _ h => h) (Or.inr ⟨by rfl, rfl⟩) (by assumption) ?_
          try simp only [Act.put, List.setIfInBounds_toArray, List.set_cons_zero, List.set_cons_succ]
          refine wpAnyH_take (i := 20) (oi := { dst := some 144, op := Go.Op.load 3 (Go.Operand.tmp 143), type := 3, pos := "law.go:118", after := #[{ on := 19, ground := Go.Ground.data }, { on := 11, ground := Go.Ground.guard }], guard := some (11, true) }) (v := undef) rfl (by kernel_rfl) (by kernel_rfl) (by kernel_rfl) (fun _ _ _ h => h) (Or.inr ⟨by rfl, rfl⟩) (by assumption) ?_
          try simp only [Act.put, List.setIfInBounds_toArray, List.set_cons_zero, List.set_cons_succ]
          refine wpAnyH_take (i := 21) (oi := { dst := some 145, op := Go.Op.binOp Go.BinOp.neq 3 (Go.Operand.tmp 136) (Go.Operand.tmp 144) 3, type := 4, pos := "law.go:118", after := #[{ on := 12, ground := Go.Ground.data }, { on := 20, ground := Go.Ground.data }, { on := 11, ground := Go.Ground.guard }], guard := some (11, true) }) (v := undef) rfl (by kernel_rfl) (by kernel_rfl) (by kernel_rfl) (fun _ _ _ h => h) (Or.inr ⟨by rfl, rfl⟩) (by assumption) ?_
          try simp only [Act.put, List.setIfInBounds_toArray, List.set_cons_zero, List.set_cons_succ]
          refine wpAnyH_take (i := 22) (oi := { dst := some 146, op := Go.Op.move (Go.Operand.tmp 145), type := 4, pos := "law.go:118", after := #[{ on := 21, ground := Go.Ground.data }, { on := 11, ground := Go.Ground.chain }, { on := 11, ground := Go.Ground.guard }], guard := some (11, true) }) (v := undef) rfl (by kernel_rfl) (by kernel_rfl) (by kernel_rfl) (fun _ _ _ h => h) (Or.inr ⟨by rfl, rfl⟩) (by assumption) ?_
          try simp only [Act.put, List.setIfInBounds_toArray, List.set_cons_zero, List.set_cons_succ]
          refine wpAnyH_take (i := 23) (oi := { dst := some 147, op := Go.Op.move (Go.Operand.tmp 18), type := 3, pos := "law.go:118", after := #[{ on := 22, ground := Go.Ground.guard }], guard := some (22, false) }) (v := undef) rfl (by kernel_rfl) (by kernel_rfl) (by kernel_rfl) (fun _ _ _ h => h) (Or.inr ⟨by rfl, rfl⟩) (by assumption) ?_
          try simp only [Act.put, List.setIfInBounds_toArray, List.set_cons_zero, List.set_cons_succ]
          refine wpAnyH_take (i := 24) (oi := { dst := some 148, op := Go.Op.move (Go.Operand.tmp 7), type := 29, pos := "law.go:118", after := #[{ on := 22, ground := Go.Ground.guard }], guard := some (22, false) }) (v := undef) rfl (by kernel_rfl) (by kernel_rfl) (by kernel_rfl) (fun _ _ _ h => h) (Or.inr ⟨by rfl, rfl⟩) (by assumption) ?_
          try simp only [Act.put, List.setIfInBounds_toArray, List.set_cons_zero, List.set_cons_succ]
          refine wpAnyH_take (i := 25) (oi := { dst := some 149, op := Go.Op.nilCheck (Go.Operand.tmp 148), type := 0, pos := "law.go:118", after := #[{ on := 24, ground := Go.Ground.data }, { on := 22, ground := Go.Ground.guard }], guard := some (22, false) }) (v := undef) rfl (by kernel_rfl) (by kernel_rfl) (by kernel_rfl) (fun _ _ _ h => h) (Or.inr ⟨by rfl, rfl⟩) (by assumption) ?_
          try simp only [Act.put, List.setIfInBounds_toArray, List.set_cons_zero, List.set_cons_succ]
          refine wpAnyH_take (i := 26) (oi := { dst := some 150, op := Go.Op.fieldAddr 50 (Go.Operand.tmp 149) 2, type := 0, pos := "law.go:118", after := #[{ on := 25, ground := Go.Ground.data }, { on := 22, ground := Go.Ground.guard }], guard := some (22, false) }) (v := undef) rfl (by kernel_rfl) (by kernel_rfl) (by kernel_rfl) (fun _ _ _ h => h) (Or.inr ⟨by rfl, rfl⟩) (by assumption) ?_
          try simp only [Act.put, List.setIfInBounds_toArray, List.set_cons_zero, List.set_cons_succ]
          refine wpAnyH_take (i := 27) (oi := { dst := some 151, op := Go.Op.load 48 (Go.Operand.tmp 150), type := 48, pos := "law.go:118", after := #[{ on := 26, ground := Go.Ground.data }, { on := 22, ground := Go.Ground.guard }], guard := some (22, false) }) (v := undef) rfl (by kernel_rfl) (by kernel_rfl) (by kernel_rfl) (fun _ _ _ h => h) (Or.inr ⟨by rfl, rfl⟩) (by assumption) ?_
          try simp only [Act.put, List.setIfInBounds_toArray, List.set_cons_zero, List.set_cons_succ]
          refine wpAnyH_take (i := 28) (oi := { dst := some 152, op := Go.Op.move (Go.Operand.tmp 20), type := 3, pos := "law.go:118", after := #[{ on := 22, ground := Go.Ground.guard }], guard := some (22, false) }) (v := undef) rfl (by kernel_rfl) (by kernel_rfl) (by kernel_rfl) (fun _ _ _ h => h) (Or.inr ⟨by rfl, rfl⟩) (by assumption) ?_
          try simp only [Act.put, List.setIfInBounds_toArray, List.set_cons_zero, List.set_cons_succ]
          refine wpAnyH_take (i := 29) (oi := { dst := some 153, op := Go.Op.indexAddr 48 (Go.Operand.tmp 151) (Go.Operand.tmp 152), type := 0, pos := "law.go:118", after := #[{ on := 27, ground := Go.Ground.data }, { on := 28, ground := Go.Ground.data }, { on := 22, ground := Go.Ground.guard }], guard := some (22, false) }) (v := undef) rfl (by kernel_rfl) (by kernel_rfl) (by kernel_rfl) (fun _ _ _ h => h) (Or.inr ⟨by rfl, rfl⟩) (by assumption) ?_
          try simp only [Act.put, List.setIfInBounds_toArray, List.set_cons_zero, List.set_cons_succ]
          refine wpAnyH_take (i := 30) (oi := { dst := some 154, op := Go.Op.fieldAddr 45 (Go.Operand.tmp 153) 1, type := 0, pos := "law.go:118", after := #[{ on := 29, ground := Go.Ground.data }, { on := 22, ground := Go.Ground.guard }], guard := some (22, false) }) (v := undef) rfl (by kernel_rfl) (by kernel_rfl) (by kernel_rfl) (fun _ _ _ h => h) (Or.inr ⟨by rfl, rfl⟩) (by assumption) ?_
          try simp only [Act.put, List.setIfInBounds_toArray, List.set_cons_zero, List.set_cons_succ]
          refine wpAnyH_take (i := 31) (oi := { dst := some 155, op := Go.Op.load 3 (Go.Operand.tmp 154), type := 3, pos := "law.go:118", after := #[{ on := 30, ground := Go.Ground.data }, { on := 22, ground := Go.Ground.guard }], guard := some (22, false) }) (v := undef) rfl (by kernel_rfl) (by kernel_rfl) (by kernel_rfl) (fun _ _ _ h => h) (Or.inr ⟨by rfl, rfl⟩) (by assumption) ?_
          try simp only [Act.put, List.setIfInBounds_toArray, List.set_cons_zero, List.set_cons_succ]
          refine wpAnyH_take (i := 32) (oi := { dst := some 156, op := Go.Op.binOp Go.BinOp.neq 3 (Go.Operand.tmp 147) (Go.Operand.tmp 155) 3, type := 4, pos := "law.go:118", after := #[{ on := 23, ground := Go.Ground.data }, { on := 31, ground := Go.Ground.data }, { on := 22, ground := Go.Ground.guard }], guard := some (22, false) }) (v := undef) rfl (by kernel_rfl) (by kernel_rfl) (by kernel_rfl) (fun _ _ _ h => h) (Or.inr ⟨by rfl, rfl⟩) (by assumption) ?_
          try simp only [Act.put, List.setIfInBounds_toArray, List.set_cons_zero, List.set_cons_succ]
          refine wpAnyH_take (i := 33) (oi := { dst := some 157, op := Go.Op.pick (Go.Operand.tmp 146) (Go.Operand.const (Go.Value.bool true)) (Go.Operand.tmp 156), type := 4, pos := "law.go:118", after := #[{ on := 22, ground := Go.Ground.data }, { on := 32, ground := Go.Ground.data }, { on := 11, ground := Go.Ground.guard }], guard := some (11, true) }) (v := undef) rfl (by kernel_rfl) (by kernel_rfl) (by kernel_rfl) (fun _ _ _ h => h) (Or.inr ⟨by rfl, rfl⟩) (by assumption) ?_
          try simp only [Act.put, List.setIfInBounds_toArray, List.set_cons_zero, List.set_cons_succ]
          refine wpAnyH_take (i := 34) (oi := { dst := some 158, op := Go.Op.pick (Go.Operand.tmp 135) (Go.Operand.tmp 157) (Go.Operand.const (Go.Value.bool false)), type := 4, pos := "law.go:118", after := #[{ on := 11, ground := Go.Ground.data }, { on := 33, ground := Go.Ground.data }, { on := 9, ground := Go.Ground.guard }], guard := some (9, false) }) (v := ?v34) rfl (by kernel_rfl) (by kernel_rfl) (by kernel_rfl) (fun _ _ _ h => h) (Or.inl ⟨by rfl, ?hy34⟩) (by assumption) ?rest34
          case hy34 => (intro w hSw; (try dsimp only at hSw); first | (go_simp; done) | (go_simp; with_reducible rfl))
          try simp only [Act.put, List.setIfInBounds_toArray, List.set_cons_zero, List.set_cons_succ]
          refine wpAnyH_take (i := 35) (oi := { dst := some 159, op := Go.Op.pick (Go.Operand.tmp 133) (Go.Operand.const (Go.Value.bool true)) (Go.Operand.tmp 158), type := 4, pos := "law.go:118", after := #[{ on := 9, ground := Go.Ground.data }, { on := 34, ground := Go.Ground.data }], guard := none }) (v := ?v35) rfl (by kernel_rfl) (by kernel_rfl) (by kernel_rfl) (fun _ _ _ h => h) (Or.inl ⟨by rfl, ?hy35⟩) (by assumption) ?rest35
          case hy35 => (intro w hSw; (try dsimp only at hSw); first | (go_simp; done) | (go_simp; with_reducible rfl))
          try simp only [Act.put, List.setIfInBounds_toArray, List.set_cons_zero, List.set_cons_succ]
          refine wpAnyH_take (i := 36) (oi := { dst := some 160, op := Go.Op.move (Go.Operand.tmp 159), type := 4, pos := "law.go:118", after := #[{ on := 35, ground := Go.Ground.data }, { on := 22, ground := Go.Ground.chain }], guard := none }) (v := ?v36) rfl (by kernel_rfl) (by kernel_rfl) (by kernel_rfl) (fun _ _ _ h => h) (Or.inl ⟨by rfl, ?hy36⟩) (by assumption) ?rest36
          case hy36 => (intro w hSw; (try dsimp only at hSw); first | (go_simp; done) | (go_simp; with_reducible rfl))
          try simp only [Act.put, List.setIfInBounds_toArray, List.set_cons_zero, List.set_cons_succ]
          refine wpAnyH_take (i := 37) (oi := { dst := some 161, op := Go.Op.move (Go.Operand.tmp 5), type := 25, pos := "law.go:118", after := #[{ on := 36, ground := Go.Ground.guard }], guard := some (36, false) }) (v := ?v37) rfl (by kernel_rfl) (by kernel_rfl) (by kernel_rfl) (fun _ _ _ h => h) (Or.inl ⟨by rfl, ?hy37⟩) (by assumption) ?rest37
          case hy37 => (intro w hSw; (try dsimp only at hSw); first | (go_simp; done) | (go_simp; with_reducible rfl))
          try simp only [Act.put, List.setIfInBounds_toArray, List.set_cons_zero, List.set_cons_succ]
          refine wpAnyH_take (i := 39) (oi := { dst := some 163, op := Go.Op.move (Go.Operand.tmp 7), type := 29, pos := "law.go:118", after := #[{ on := 36, ground := Go.Ground.guard }], guard := some (36, false) }) (v := ?v39) rfl (by kernel_rfl) (by kernel_rfl) (by kernel_rfl) (fun _ _ _ h => h) (Or.inl ⟨by rfl, ?hy39⟩) (by assumption) ?rest39
          case hy39 => (intro w hSw; (try dsimp only at hSw); first | (go_simp; done) | (go_simp; with_reducible rfl))
          try simp only [Act.put, List.setIfInBounds_toArray, List.set_cons_zero, List.set_cons_succ]
          refine wpAnyH_take (i := 40) (oi := { dst := some 164, op := Go.Op.nilCheck (Go.Operand.tmp 163), type := 0, pos := "law.go:118", after := #[{ on := 39, ground := Go.Ground.data }, { on := 36, ground := Go.Ground.guard }], guard := some (36, false) }) (v := ?v40) rfl (by kernel_rfl) (by kernel_rfl) (by kernel_rfl) (fun _ _ _ h => h) (Or.inl ⟨by rfl, ?hy40⟩) (by assumption) ?rest40
          case hy40 => (intro w hSw; (try dsimp only at hSw); first | (go_simp; done) | (go_simp; with_reducible rfl))
          try simp only [Act.put, List.setIfInBounds_toArray, List.set_cons_zero, List.set_cons_succ]
          refine wpAnyH_take (i := 41) (oi := { dst := some 165, op := Go.Op.fieldAddr 50 (Go.Operand.tmp 164) 0, type := 0, pos := "law.go:118", after := #[{ on := 40, ground := Go.Ground.data }, { on := 36, ground := Go.Ground.guard }], guard := some (36, false) }) (v := ?v41) rfl (by kernel_rfl) (by kernel_rfl) (by kernel_rfl) (fun _ _ _ h => h) (Or.inl ⟨by rfl, ?hy41⟩) (by assumption) ?rest41
          case hy41 => (intro w hSw; (try dsimp only at hSw); first | (go_simp; done) | (go_simp; with_reducible rfl))
          try simp only [Act.put, List.setIfInBounds_toArray, List.set_cons_zero, List.set_cons_succ]
          refine wpAnyH_take (i := 42) (oi := { dst := some 166, op := Go.Op.load 46 (Go.Operand.tmp 165), type := 46, pos := "law.go:118", after := #[{ on := 41, ground := Go.Ground.data }, { on := 36, ground := Go.Ground.guard }], guard := some (36, false) }) (v := ?v42) rfl (by kernel_rfl) (by kernel_rfl) (by kernel_rfl) (fun _ _ _ h => h) (Or.inl ⟨by rfl, ?hy42⟩) (by assumption) ?rest42
          case hy42 => (intro w hSw; (try dsimp only at hSw); first | (go_simp; done) | (go_simp; with_reducible rfl))
          try simp only [Act.put, List.setIfInBounds_toArray, List.set_cons_zero, List.set_cons_succ]
          refine wpAnyH_ready (rs := [38]) (by kernel_rfl) (by simp) ?_
          refine AllReadyH.cons (o := { dst := some 162, op := Go.Op.call { callee := Go.Callee.value (Go.Operand.func 19), args := #[Go.Operand.tmp 161], argTypes := #[25] }, type := 3, pos := "law.go:118", after := #[{ on := 37, ground := Go.Ground.data }, { on := 36, ground := Go.Ground.chain }, { on := 36, ground := Go.Ground.guard }], guard := some (36, false) }) rfl (fun Kr hKr => ?_) AllReadyH.nil
          go_simp
          refine kU.mono ?_
          rintro e w' ⟨rfl, hw⟩
          rw [hw]
          clear hw
          go_wp2_with fail
          refine hKr.out _ _ ?_ (fun hHeld => ?_)
          · refine ⟨?_, ?_, ?_, ?_⟩ <;> repeat (with_reducible (first | assumption | apply cell_dr14))
          clear hKr Kr
          try simp only [Act.put, List.setIfInBounds_toArray, List.set_cons_zero, List.set_cons_succ]
          refine wpAnyH_ready (rs := [43]) (by kernel_rfl) (by simp) ?_
          refine AllReadyH.cons (o := { dst := some 167, op := Go.Op.call { callee := Go.Callee.value (Go.Operand.func 20), args := #[Go.Operand.tmp 166], argTypes := #[46] }, type := 3, pos := "law.go:118", after := #[{ on := 42, ground := Go.Ground.data }, { on := 38, ground := Go.Ground.chain }, { on := 36, ground := Go.Ground.guard }], guard := some (36, false) }) rfl (fun Kr hKr => ?_) AllReadyH.nil
          go_simp
          refine kS.mono ?_
          rintro e w' ⟨rfl, hw⟩
          rw [hw]
          clear hw
          go_wp2_with fail
          refine hKr.out _ _ ?_ (fun hHeld => ?_)
          · refine ⟨?_, ?_, ?_, ?_⟩ <;> repeat (with_reducible (first | assumption | apply cell_dr14))
          clear hKr Kr
          try simp only [Act.put, List.setIfInBounds_toArray, List.set_cons_zero, List.set_cons_succ]
          refine wpAnyH_take (i := 44) (oi := { dst := some 168, op := Go.Op.binOp Go.BinOp.neq 3 (Go.Operand.tmp 162) (Go.Operand.tmp 167) 3, type := 4, pos := "law.go:118", after := #[{ on := 38, ground := Go.Ground.data }, { on := 43, ground := Go.Ground.data }, { on := 36, ground := Go.Ground.guard }], guard := some (36, false) }) (v := ?v44) rfl (by kernel_rfl) (by kernel_rfl) (by kernel_rfl) (fun _ _ _ h => h) (Or.inl ⟨by rfl, ?hy44⟩) (by assumption) ?rest44
          case hy44 => (intro w hSw; (try dsimp only at hSw); first | (go_simp; done) | (go_simp; with_reducible rfl))
          try simp only [Act.put, List.setIfInBounds_toArray, List.set_cons_zero, List.set_cons_succ]
          refine wpAnyH_take (i := 45) (oi := { dst := some 169, op := Go.Op.pick (Go.Operand.tmp 160) (Go.Operand.const (Go.Value.bool true)) (Go.Operand.tmp 168), type := 4, pos := "law.go:118", after := #[{ on := 36, ground := Go.Ground.data }, { on := 44, ground := Go.Ground.data }], guard := none }) (v := ?v45) rfl (by kernel_rfl) (by kernel_rfl) (by kernel_rfl) (fun _ _ _ h => h) (Or.inl ⟨by rfl, ?hy45⟩) (by assumption) ?rest45
          case hy45 => (intro w hSw; (try dsimp only at hSw); first | (go_simp; done) | (go_simp; with_reducible rfl))
          try simp only [Act.put, List.setIfInBounds_toArray, List.set_cons_zero, List.set_cons_succ]
          refine wpAnyH_take (i := 46) (oi := { dst := some 170, op := Go.Op.move (Go.Operand.tmp 169), type := 4, pos := "law.go:118", after := #[{ on := 45, ground := Go.Ground.data }, { on := 43, ground := Go.Ground.chain }], guard := none }) (v := ?v46) rfl (by kernel_rfl) (by kernel_rfl) (by kernel_rfl) (fun _ _ _ h => h) (Or.inl ⟨by rfl, ?hy46⟩) (by assumption) ?rest46
          case hy46 => (intro w hSw; (try dsimp only at hSw); first | (go_simp; done) | (go_simp; with_reducible rfl))
          try simp only [Act.put, List.setIfInBounds_toArray, List.set_cons_zero, List.set_cons_succ]
          refine wpAnyH_take (i := 47) (oi := { dst := some 171, op := Go.Op.move (Go.Operand.tmp 5), type := 25, pos := "law.go:118", after := #[{ on := 46, ground := Go.Ground.guard }], guard := some (46, false) }) (v := ?v47) rfl (by kernel_rfl) (by kernel_rfl) (by kernel_rfl) (fun _ _ _ h => h) (Or.inl ⟨by rfl, ?hy47⟩) (by assumption) ?rest47
          case hy47 => (intro w hSw; (try dsimp only at hSw); first | (go_simp; done) | (go_simp; with_reducible rfl))
          try simp only [Act.put, List.setIfInBounds_toArray, List.set_cons_zero, List.set_cons_succ]
          refine wpAnyH_take (i := 49) (oi := { dst := some 173, op := Go.Op.move (Go.Operand.tmp 0), type := 3, pos := "law.go:118", after := #[{ on := 46, ground := Go.Ground.guard }], guard := some (46, false) }) (v := ?v49) rfl (by kernel_rfl) (by kernel_rfl) (by kernel_rfl) (fun _ _ _ h => h) (Or.inl ⟨by rfl, ?hy49⟩) (by assumption) ?rest49
          case hy49 => (intro w hSw; (try dsimp only at hSw); first | (go_simp; done) | (go_simp; with_reducible rfl))
          try simp only [Act.put, List.setIfInBounds_toArray, List.set_cons_zero, List.set_cons_succ]
          refine wpAnyH_ready (rs := [48]) (by kernel_rfl) (by simp) ?_
          refine AllReadyH.cons (o := { dst := some 172, op := Go.Op.call { callee := Go.Callee.value (Go.Operand.func 21), args := #[Go.Operand.tmp 171], argTypes := #[25] }, type := 3, pos := "law.go:118", after := #[{ on := 47, ground := Go.Ground.data }, { on := 46, ground := Go.Ground.chain }, { on := 46, ground := Go.Ground.guard }], guard := some (46, false) }) rfl (fun Kr hKr => ?_) AllReadyH.nil
          go_simp
          refine kRo.mono ?_
          rintro e w' ⟨rfl, hw⟩
          rw [hw]
          clear hw
          go_wp2_with fail
          refine hKr.out _ _ ?_ (fun hHeld => ?_)
          · refine ⟨?_, ?_, ?_, ?_⟩ <;> repeat (with_reducible (first | assumption | apply cell_dr14))
          clear hKr Kr
          try simp only [Act.put, List.setIfInBounds_toArray, List.set_cons_zero, List.set_cons_succ]
          refine wpAnyH_take (i := 50) (oi := { dst := some 174, op := Go.Op.binOp Go.BinOp.neq 3 (Go.Operand.tmp 172) (Go.Operand.tmp 173) 3, type := 4, pos := "law.go:118", after := #[{ on := 48, ground := Go.Ground.data }, { on := 49, ground := Go.Ground.data }, { on := 46, ground := Go.Ground.guard }], guard := some (46, false) }) (v := ?v50) rfl (by kernel_rfl) (by kernel_rfl) (by kernel_rfl) (fun _ _ _ h => h) (Or.inl ⟨by rfl, ?hy50⟩) (by assumption) ?rest50
          case hy50 => (intro w hSw; (try dsimp only at hSw); first | (go_simp; done) | (go_simp; with_reducible rfl))
          try simp only [Act.put, List.setIfInBounds_toArray, List.set_cons_zero, List.set_cons_succ]
          refine wpAnyH_take (i := 51) (oi := { dst := some 175, op := Go.Op.pick (Go.Operand.tmp 170) (Go.Operand.const (Go.Value.bool true)) (Go.Operand.tmp 174), type := 4, pos := "law.go:118", after := #[{ on := 46, ground := Go.Ground.data }, { on := 50, ground := Go.Ground.data }], guard := none }) (v := ?v51) rfl (by kernel_rfl) (by kernel_rfl) (by kernel_rfl) (fun _ _ _ h => h) (Or.inl ⟨by rfl, ?hy51⟩) (by assumption) ?rest51
          case hy51 => (intro w hSw; (try dsimp only at hSw); first | (go_simp; done) | (go_simp; with_reducible rfl))
          try simp only [Act.put, List.setIfInBounds_toArray, List.set_cons_zero, List.set_cons_succ]
          refine wpAnyH_take (i := 52) (oi := { dst := some 176, op := Go.Op.move (Go.Operand.tmp 175), type := 4, pos := "law.go:118", after := #[{ on := 51, ground := Go.Ground.data }, { on := 48, ground := Go.Ground.chain }], guard := none }) (v := ?v52) rfl (by kernel_rfl) (by kernel_rfl) (by kernel_rfl) (fun _ _ _ h => h) (Or.inl ⟨by rfl, ?hy52⟩) (by assumption) ?rest52
          case hy52 => (intro w hSw; (try dsimp only at hSw); first | (go_simp; done) | (go_simp; with_reducible rfl))
          try simp only [Act.put, List.setIfInBounds_toArray, List.set_cons_zero, List.set_cons_succ]
          refine wpAnyH_take (i := 53) (oi := { dst := some 177, op := Go.Op.move (Go.Operand.tmp 5), type := 25, pos := "law.go:118", after := #[{ on := 52, ground := Go.Ground.guard }], guard := some (52, false) }) (v := ?v53) rfl (by kernel_rfl) (by kernel_rfl) (by kernel_rfl) (fun _ _ _ h => h) (Or.inl ⟨by rfl, ?hy53⟩) (by assumption) ?rest53
          case hy53 => (intro w hSw; (try dsimp only at hSw); first | (go_simp; done) | (go_simp; with_reducible rfl))
          try simp only [Act.put, List.setIfInBounds_toArray, List.set_cons_zero, List.set_cons_succ]
          refine wpAnyH_take (i := 56) (oi := { dst := some 180, op := Go.Op.move (Go.Operand.tmp 7), type := 29, pos := "law.go:118", after := #[{ on := 52, ground := Go.Ground.guard }], guard := some (52, false) }) (v := ?v56) rfl (by kernel_rfl) (by kernel_rfl) (by kernel_rfl) (fun _ _ _ h => h) (Or.inl ⟨by rfl, ?hy56⟩) (by assumption) ?rest56
          case hy56 => (intro w hSw; (try dsimp only at hSw); first | (go_simp; done) | (go_simp; with_reducible rfl))
          try simp only [Act.put, List.setIfInBounds_toArray, List.set_cons_zero, List.set_cons_succ]
          refine wpAnyH_take (i := 57) (oi := { dst := some 181, op := Go.Op.nilCheck (Go.Operand.tmp 180), type := 0, pos := "law.go:118", after := #[{ on := 56, ground := Go.Ground.data }, { on := 52, ground := Go.Ground.guard }], guard := some (52, false) }) (v := ?v57) rfl (by kernel_rfl) (by kernel_rfl) (by kernel_rfl) (fun _ _ _ h => h) (Or.inl ⟨by rfl, ?hy57⟩) (by assumption) ?rest57
          case hy57 => (intro w hSw; (try dsimp only at hSw); first | (go_simp; done) | (go_simp; with_reducible rfl))
          try simp only [Act.put, List.setIfInBounds_toArray, List.set_cons_zero, List.set_cons_succ]
          refine wpAnyH_take (i := 58) (oi := { dst := some 182, op := Go.Op.fieldAddr 50 (Go.Operand.tmp 181) 1, type := 0, pos := "law.go:118", after := #[{ on := 57, ground := Go.Ground.data }, { on := 52, ground := Go.Ground.guard }], guard := some (52, false) }) (v := ?v58) rfl (by kernel_rfl) (by kernel_rfl) (by kernel_rfl) (fun _ _ _ h => h) (Or.inl ⟨by rfl, ?hy58⟩) (by assumption) ?rest58
          case hy58 => (intro w hSw; (try dsimp only at hSw); first | (go_simp; done) | (go_simp; with_reducible rfl))
          try simp only [Act.put, List.setIfInBounds_toArray, List.set_cons_zero, List.set_cons_succ]
          refine wpAnyH_take (i := 59) (oi := { dst := some 183, op := Go.Op.load 47 (Go.Operand.tmp 182), type := 47, pos := "law.go:118", after := #[{ on := 58, ground := Go.Ground.data }, { on := 52, ground := Go.Ground.guard }], guard := some (52, false) }) (v := ?v59) rfl (by kernel_rfl) (by kernel_rfl) (by kernel_rfl) (fun _ _ _ h => h) (Or.inl ⟨by rfl, ?hy59⟩) (by assumption) ?rest59
          case hy59 => (intro w hSw; (try dsimp only at hSw); first | (go_simp; done) | (go_simp; with_reducible rfl))
          try simp only [Act.put, List.setIfInBounds_toArray, List.set_cons_zero, List.set_cons_succ]
          refine wpAnyH_take (i := 60) (oi := { dst := some 184, op := Go.Op.nilCheck (Go.Operand.tmp 183), type := 0, pos := "law.go:118", after := #[{ on := 59, ground := Go.Ground.data }, { on := 52, ground := Go.Ground.guard }], guard := some (52, false) }) (v := ?v60) rfl (by kernel_rfl) (by kernel_rfl) (by kernel_rfl) (fun _ _ _ h => h) (Or.inl ⟨by rfl, ?hy60⟩) (by assumption) ?rest60
          case hy60 => (intro w hSw; (try dsimp only at hSw); first | (go_simp; done) | (go_simp; with_reducible rfl))
          try simp only [Act.put, List.setIfInBounds_toArray, List.set_cons_zero, List.set_cons_succ]
          refine wpAnyH_take (i := 61) (oi := { dst := some 185, op := Go.Op.fieldAddr 54 (Go.Operand.tmp 184) 0, type := 0, pos := "law.go:118", after := #[{ on := 60, ground := Go.Ground.data }, { on := 52, ground := Go.Ground.guard }], guard := some (52, false) }) (v := ?v61) rfl (by kernel_rfl) (by kernel_rfl) (by kernel_rfl) (fun _ _ _ h => h) (Or.inl ⟨by rfl, ?hy61⟩) (by assumption) ?rest61
          case hy61 => (intro w hSw; (try dsimp only at hSw); first | (go_simp; done) | (go_simp; with_reducible rfl))
          try simp only [Act.put, List.setIfInBounds_toArray, List.set_cons_zero, List.set_cons_succ]
          refine wpAnyH_take (i := 62) (oi := { dst := some 186, op := Go.Op.load 31 (Go.Operand.tmp 185), type := 31, pos := "law.go:118", after := #[{ on := 61, ground := Go.Ground.data }, { on := 52, ground := Go.Ground.guard }], guard := some (52, false) }) (v := ?v62) rfl (by kernel_rfl) (by kernel_rfl) (by kernel_rfl) (fun _ _ _ h => h) (Or.inl ⟨by rfl, ?hy62⟩) (by assumption) ?rest62
          case hy62 => (intro w hSw; (try dsimp only at hSw); first | (go_simp; done) | (go_simp; with_reducible rfl))
          try simp only [Act.put, List.setIfInBounds_toArray, List.set_cons_zero, List.set_cons_succ]
          refine wpAnyH_take (i := 63) (oi := { dst := some 187, op := Go.Op.call { callee := Go.Callee.builtin Go.Builtin.len, args := #[Go.Operand.tmp 186], argTypes := #[31] }, type := 3, pos := "law.go:118", after := #[{ on := 62, ground := Go.Ground.data }, { on := 52, ground := Go.Ground.guard }], guard := some (52, false) }) (v := ?v63) rfl (by kernel_rfl) (by kernel_rfl) (by kernel_rfl) (fun _ _ _ h => h) (Or.inl ⟨by rfl, ?hy63⟩) (by assumption) ?rest63
          case hy63 => (intro w hSw; (try dsimp only at hSw); first | (go_simp; done) | (go_simp; with_reducible rfl))
          try simp only [Act.put, List.setIfInBounds_toArray, List.set_cons_zero, List.set_cons_succ]
          refine wpAnyH_ready (rs := [54]) (by kernel_rfl) (by simp) ?_
          refine AllReadyH.cons (o := { dst := some 178, op := Go.Op.call { callee := Go.Callee.value (Go.Operand.func 22), args := #[Go.Operand.tmp 177], argTypes := #[25] }, type := 31, pos := "law.go:118", after := #[{ on := 53, ground := Go.Ground.data }, { on := 52, ground := Go.Ground.chain }, { on := 52, ground := Go.Ground.guard }], guard := some (52, false) }) rfl (fun Kr hKr => ?_) AllReadyH.nil
          go_simp
          refine kL.mono ?_
          rintro e v7 ⟨p7, c7, rfl, -, hb7⟩
          have n0 : v7.cell? ⟨b, 0, none⟩ = some (.pointer (some ⟨r, 0, none⟩)) := (hb7.cell (p := ⟨b, 0, none⟩) (cell_lt s0)).trans s0
          have n1 : v7.cell? ⟨b, 1, none⟩ = some (.pointer (some ⟨t, 0, none⟩)) := (hb7.cell (p := ⟨b, 1, none⟩) (cell_lt s1)).trans s1
          have n2 : v7.cell? ⟨b, 2, none⟩ = some (.slice pO O.length cO) := (hb7.cell (p := ⟨b, 2, none⟩) (cell_lt s2)).trans s2
          have n3 : v7.cell? ⟨t, 0, none⟩ = some (.slice pX X.length cX) := (hb7.cell (p := ⟨t, 0, none⟩) (cell_lt s3)).trans s3
          go_wp2_with fail
          refine hKr.out _ _ ?_ (fun hHeld => ?_)
          · refine ⟨?_, ?_, ?_, ?_⟩ <;> repeat (with_reducible (first | assumption | apply cell_dr14))
          clear hKr Kr
          try simp only [Act.put, List.setIfInBounds_toArray, List.set_cons_zero, List.set_cons_succ]
          refine wpAnyH_take (i := 55) (oi := { dst := some 179, op := Go.Op.call { callee := Go.Callee.builtin Go.Builtin.len, args := #[Go.Operand.tmp 178], argTypes := #[31] }, type := 3, pos := "law.go:118", after := #[{ on := 54, ground := Go.Ground.data }, { on := 52, ground := Go.Ground.guard }], guard := some (52, false) }) (v := ?v55) rfl (by kernel_rfl) (by kernel_rfl) (by kernel_rfl) (fun _ _ _ h => h) (Or.inl ⟨by rfl, ?hy55⟩) (by assumption) ?rest55
          case hy55 => (intro w hSw; (try dsimp only at hSw); first | (go_simp; done) | (go_simp; with_reducible rfl))
          try simp only [Act.put, List.setIfInBounds_toArray, List.set_cons_zero, List.set_cons_succ]
          refine wpAnyH_take (i := 64) (oi := { dst := some 188, op := Go.Op.binOp Go.BinOp.neq 3 (Go.Operand.tmp 179) (Go.Operand.tmp 187) 3, type := 4, pos := "law.go:118", after := #[{ on := 55, ground := Go.Ground.data }, { on := 63, ground := Go.Ground.data }, { on := 52, ground := Go.Ground.guard }], guard := some (52, false) }) (v := ?v64) rfl (by kernel_rfl) (by kernel_rfl) (by kernel_rfl) (fun _ _ _ h => h) (Or.inl ⟨by rfl, ?hy64⟩) (by assumption) ?rest64
          case hy64 => (intro w hSw; (try dsimp only at hSw); first | (go_simp; done) | (go_simp; with_reducible rfl))
          try simp only [Act.put, List.setIfInBounds_toArray, List.set_cons_zero, List.set_cons_succ]
          refine wpAnyH_take (i := 65) (oi := { dst := some 189, op := Go.Op.pick (Go.Operand.tmp 176) (Go.Operand.const (Go.Value.bool true)) (Go.Operand.tmp 188), type := 4, pos := "law.go:118", after := #[{ on := 52, ground := Go.Ground.data }, { on := 64, ground := Go.Ground.data }], guard := none }) (v := ?v65) rfl (by kernel_rfl) (by kernel_rfl) (by kernel_rfl) (fun _ _ _ h => h) (Or.inl ⟨by rfl, ?hy65⟩) (by assumption) ?rest65
          case hy65 => (intro w hSw; (try dsimp only at hSw); first | (go_simp; done) | (go_simp; with_reducible rfl))
          try simp only [Act.put, List.setIfInBounds_toArray, List.set_cons_zero, List.set_cons_succ]
          refine wpAnyH_done (by kernel_rfl) ?_ _
          all_goals
            have hZ7 := hZ6d.kept hb7
            have hbl7 := hbl6.drew.trans (hb7.mono hZ6d.hp.size)
            clear kU kS kRo kL
            skip

            have kL8 := hlive_any v7 B q a0 used N M ns A K (i + 1) hZ7.hp X hZ7.oh.tb.mt
            go_upto_region 31 with (go_at_call 22; go_loud (refine kL8.mono ?_; rintro e v8 ⟨p8, c8, rfl, hrow8, hb8⟩))
            have hZ8 := hZ7.kept hb8
            have hbl8 := hbl7.trans (hb8.mono hZ7.hp.size)
            clear kL8
            go_wp2
            go_loopw [22] (fun n22 wk => ∃ k2 : Nat, n22 = .int .i64 k2 ∧ k2 ≤ X.length ∧ Below v8.heap.size v8 wk) (fun n22 _ => X.length - (valOf n22).toNat)
            case atStart => exact ⟨0, rfl, by omega, Below.refl _ _⟩
            case round =>
              obtain ⟨k2, rfl, hk2, hbk⟩ := hrel
              have hZk := hZ8.kept hbk
              have hrk := row_kept hrow8 (fun g hg => hbk.block _ (hrow8.lt g hg).2)
              obtain ⟨Tk, hRk, -, -⟩ := hZk.oh.tb.ex
              by_cases hkl2 : k2 < X.length
              · have dk2 : decide ((k2 : Int) < X.length) = true := by simp; omega
                have e8 : IntKind.i64.wrap ((k2 : Int) + 1) = (k2 : Int) + 1 := IntWalk.i64_in _ (by have := hRk.lenX; omega)
                obtain ⟨g1, y1, hy1, -, -, t0, t1, hai1⟩ := idx34 hrk hkl2 (by have := hRk.lenX; omega)
                obtain ⟨g2, y2, hy2, -, -, u0', u1', hai2⟩ := idx34 hRk.rowX hkl2 (by have := hRk.lenX; omega)
                rw [hy1] at hy2
                obtain rfl := Option.some.inj hy2
                obtain ⟨ys, yg⟩ := y1
                simp only at t0 t1 u0' u1'
                have cr : wr.cell? ⟨t, 0, none⟩ = some (.slice pX X.length cX) := by rw [cell_of hRk.cells]; rfl
                have cb : wr.cell? ⟨b, 1, none⟩ = some (.pointer (some ⟨t, 0, none⟩)) := by rw [cell_of hZk.oh.cells]; rfl
                have nq2 := fun W => neqH ys ys yg yg W
                simp only [beq_self_eq_true, Bool.and_self, Bool.not_true] at nq2
                clear hy1
                go_upto_region 34 with fail
                go_quiet (fail)
                go_wp2
                exact ⟨⟨k2 + 1, by simp, by omega, Below.drewN hbk _⟩, by simp [valOf]; omega⟩
              · have dk2 : decide ((k2 : Int) < X.length) = false := by simp; omega
                go_wp2
                exact ⟨⟨i + 1, used, N, M, ns, A, K, O, X, _, _, _, _, Y, p, c, by simp, rfl, by omega, hZk, hbl8.trans (hbk.mono hZ8.hp.size)⟩, by simp [valOf]; omega⟩
        | true =>
          as_aux_lemma =>
          obtain ⟨k, o, rfl, hM, rfl⟩ := live_at hlv
          obtain ⟨j, hj⟩ := List.getElem?_of_mem (hZ5.oh.mo.all k o hM)
          have hct' : ct = o.c := by
            rw [← hct]
            simp [ctM, hlv, getM_nat, hM]
          have hkd' : kd = o.k := by
            rw [← hkd]
            simp [kdM, hlv, getM_nat, hM]
          rw [hct', hkd']
          clear hct' hkd'
          have ko := oh_yes hZ5.oh hj (fun i' x' hi hx he => by have := hZ5.oh.mo.same hx hj (by rw [he.1]; rfl); omega)
          go_upto_region 28 with (go_at_call 18; go_loud (refine ko.mono ?_; rintro e v6 ⟨rfl, hb6⟩))
          have hZ6 := hZ5.kept hb6
          have hz6 := (hb6.block _ (heap_lt hz5)).trans hz5
          have hbl6 := hbl5.trans (hb6.mono hZ5.hp.size)
          have ocl := hZ6.oh.cells
          obtain ⟨T6, hRf, hNt6, hTl6⟩ := hZ6.oh.tb.ex
          have tcl := hRf.cells
          have s0 : v6.cell? ⟨b, 0, none⟩ = some (.pointer (some ⟨r, 0, none⟩)) := by rw [cell_of ocl]; rfl
          have s1 : v6.cell? ⟨b, 1, none⟩ = some (.pointer (some ⟨t, 0, none⟩)) := by rw [cell_of ocl]; rfl
          have s2 : v6.cell? ⟨b, 2, none⟩ = some (.slice pO O.length cO) := by rw [cell_of ocl]; rfl
          have s3 : v6.cell? ⟨t, 0, none⟩ = some (.slice pX X.length cX) := by rw [cell_of tcl]; rfl
          obtain ⟨gO, x0, hx0, hgl, -, -, -, s4, s5, hai⟩ := idx45 hZ6.oh.row (List.getElem?_eq_some_iff.1 hj).1 (by have := hZ6.oh.len; have := hZ6.oh.nn; omega)
          rw [hj] at hx0
          obtain rfl := Option.some.inj hx0
          simp only [doOf] at s4 s5
          have dk : decide ((0 : Int) ≤ (j : Int)) = true := by simp
          have l4 : (o.c == o.c) = true := by simp
          have l5 : (o.k == o.k) = true := by simp
          have hZ6d := hZ6.kept (Below.refl _ v6).drew
          have kU := hused_any v6.drew B q a0 used N M ns A K (i + 1) hZ6d.hp
          have kS := rused_any v6.drew B r a0 used (bM M) _ (i + 1) hZ6d.oh.sl
          have kRo := hroom_any v6.drew B q a0 used N M ns A K (i + 1) hZ6d.hp
          have kL := hlive_any v6.drew B q a0 used N M ns A K (i + 1) hZ6d.hp X hZ6.oh.tb.mt
          have l6 : (used == used) = true := by simp
          have l7 : (a0 == a0) = true := by simp
          have l8 : ((X.length : Int) == (X.length : Int)) = true := by simp
          clear ko ocl tcl hRf
          go_upto_region 28 with fail
          try dsimp only [List.append]
          try simp only [List.append_eq, List.cons_append, List.nil_append]
          go_region_held3 (fun w' => w'.cell? ⟨b, 0, none⟩ = some (.pointer (some ⟨r, 0, none⟩)) ∧ w'.cell? ⟨b, 1, none⟩ = some (.pointer (some ⟨t, 0, none⟩)) ∧ w'.cell? ⟨b, 2, none⟩ = some (.slice pO O.length cO) ∧ w'.cell? ⟨t, 0, none⟩ = some (.slice pX X.length cX) ∧ w'.cell? ⟨gO, j * 4 + 2, none⟩ = some (.int .i64 o.k) ∧ w'.cell? ⟨gO, j * 4 + 3, none⟩ = some (.int .i64 o.c)) ((refine ⟨?_, ?_, ?_, ?_, ?_, ?_⟩ <;> repeat (with_reducible (first | assumption | apply cell_dr14)))) (first
            | (go_at_call 19; refine kU.mono ?_; rintro e w' ⟨rfl, hw⟩; rw [hw]; clear hw)
            | (go_at_call 20; refine kS.mono ?_; rintro e w' ⟨rfl, hw⟩; rw [hw]; clear hw)
            | (go_at_call 21; refine kRo.mono ?_; rintro e w' ⟨rfl, hw⟩; rw [hw]; clear hw)
            | (go_at_call 22; go_loud (refine kL.mono ?_; rintro e v7 ⟨p7, c7, rfl, -, hb7⟩; have n0 : v7.cell? ⟨b, 0, none⟩ = some (.pointer (some ⟨r, 0, none⟩)) := (hb7.cell (p := ⟨b, 0, none⟩) (cell_lt s0)).trans s0; have n1 : v7.cell? ⟨b, 1, none⟩ = some (.pointer (some ⟨t, 0, none⟩)) := (hb7.cell (p := ⟨b, 1, none⟩) (cell_lt s1)).trans s1; have n2 : v7.cell? ⟨b, 2, none⟩ = some (.slice pO O.length cO) := (hb7.cell (p := ⟨b, 2, none⟩) (cell_lt s2)).trans s2; have n3 : v7.cell? ⟨t, 0, none⟩ = some (.slice pX X.length cX) := (hb7.cell (p := ⟨t, 0, none⟩) (cell_lt s3)).trans s3; have n4 : v7.cell? ⟨gO, j * 4 + 2, none⟩ = some (.int .i64 o.k) := (hb7.cell (p := ⟨gO, j * 4 + 2, none⟩) (cell_lt s4)).trans s4; have n5 : v7.cell? ⟨gO, j * 4 + 3, none⟩ = some (.int .i64 o.c) := (hb7.cell (p := ⟨gO, j * 4 + 3, none⟩) (cell_lt s5)).trans s5)))
          all_goals
            have hZ7 := hZ6d.kept hb7
            have hbl7 := hbl6.drew.trans (hb7.mono hZ6d.hp.size)
            clear kU kS kRo kL
            skip

            have kL8 := hlive_any v7 B q a0 used N M ns A K (i + 1) hZ7.hp X hZ7.oh.tb.mt
            go_upto_region 31 with (go_at_call 22; go_loud (refine kL8.mono ?_; rintro e v8 ⟨p8, c8, rfl, hrow8, hb8⟩))
            have hZ8 := hZ7.kept hb8
            have hbl8 := hbl7.trans (hb8.mono hZ7.hp.size)
            clear kL8
            go_wp2
            go_loopw [22] (fun n22 wk => ∃ k2 : Nat, n22 = .int .i64 k2 ∧ k2 ≤ X.length ∧ Below v8.heap.size v8 wk) (fun n22 _ => X.length - (valOf n22).toNat)
            case atStart => exact ⟨0, rfl, by omega, Below.refl _ _⟩
            case round =>
              obtain ⟨k2, rfl, hk2, hbk⟩ := hrel
              have hZk := hZ8.kept hbk
              have hrk := row_kept hrow8 (fun g hg => hbk.block _ (hrow8.lt g hg).2)
              obtain ⟨Tk, hRk, -, -⟩ := hZk.oh.tb.ex
              by_cases hkl2 : k2 < X.length
              · have dk2 : decide ((k2 : Int) < X.length) = true := by simp; omega
                have e8 : IntKind.i64.wrap ((k2 : Int) + 1) = (k2 : Int) + 1 := IntWalk.i64_in _ (by have := hRk.lenX; omega)
                obtain ⟨g1, y1, hy1, -, -, t0, t1, hai1⟩ := idx34 hrk hkl2 (by have := hRk.lenX; omega)
                obtain ⟨g2, y2, hy2, -, -, u0', u1', hai2⟩ := idx34 hRk.rowX hkl2 (by have := hRk.lenX; omega)
                rw [hy1] at hy2
                obtain rfl := Option.some.inj hy2
                obtain ⟨ys, yg⟩ := y1
                simp only at t0 t1 u0' u1'
                have cr : wr.cell? ⟨t, 0, none⟩ = some (.slice pX X.length cX) := by rw [cell_of hRk.cells]; rfl
                have cb : wr.cell? ⟨b, 1, none⟩ = some (.pointer (some ⟨t, 0, none⟩)) := by rw [cell_of hZk.oh.cells]; rfl
                have nq2 := fun W => neqH ys ys yg yg W
                simp only [beq_self_eq_true, Bool.and_self, Bool.not_true] at nq2
                clear hy1
                go_upto_region 34 with fail
                go_quiet (fail)
                go_wp2
                exact ⟨⟨k2 + 1, by simp, by omega, Below.drewN hbk _⟩, by simp [valOf]; omega⟩
              · have dk2 : decide ((k2 : Int) < X.length) = false := by simp; omega
                go_wp2
                exact ⟨⟨i + 1, used, N, M, ns, A, K, O, X, _, _, _, _, Y, p, c, by simp, rfl, by omega, hZk, hbl8.trans (hbk.mono hZ8.hp.size)⟩, by simp [valOf]; omega⟩
    · have dA : decide ((i : Int) < L1.length) = false := by simp; omega
      have k9' := k9 wr hH.tab (by have := hbl.size; omega)
      go_wp2_with (go_at_call 9; refine k9'.mono ?_; rintro e w3 ⟨rfl, hb⟩)
      all_goals go_returns
      exact ⟨rfl, by rw [hB0.out]; exact hbl.trans (hb.mono hwr)⟩

theorem readable : ∀ t ∈ Tryd.f3.params.toList, Tryd.prog.readableRec t = true ∧ t < Tryd.prog.types.size := by
  rw [Tryd.params3]
  intro t ht
  simp at ht
  rcases ht with rfl | rfl
  all_goals exact ⟨by kernel_rfl, of_decide_eq_true (by kernel_rfl)⟩
set_option maxRecDepth 100000 in
theorem lifted (os : Os) (started : os.Started) (H : Type) (enc : TypeId × Value → H) :
    ReturnsInHanded {} Tryd.checked os 3 .any (fun w args => (Rows.heapPlaysSpec.pre enc Tryd.prog Tryd.f3 [] false w args ∧ laidMetH Tryd.prog laidL w) ∧ sizedMet enc Tryd.prog Tryd.f3 (OpenSpec.ofChange Rows.heapPlaysSpec) false w args) (Rows.heapPlaysSpec.post enc Tryd.prog Tryd.f3 false true false false) := by
  refine returnsInHanded_of_change_and (C := Tryd.checked) (X := fun w _ => laidMetH Tryd.prog laidL w) (fun _ _ _ hh h => h.of_heap hh) own started (by kernel_rfl) Tryd.func3
    (ChangeSpec.witness_shaped (enc := enc) (C := Tryd.checked) (os := os) (X := fun w _ => laidMetH Tryd.prog laidL w) false (World.doorLaid Tryd.prog 400 os) #[.int .i64 0, .slice none 0 0] 8 rfl (World.shaped_of_RefB (by kernel_rfl) (by kernel_rfl)) (by kernel_rfl) (by kernel_rfl) (by kernel_rfl) (door_met os _)) ?_
  intro W base args ds gs before hval0 hW _ _ hL _
  have hval : ∀ (j : Nat) t v, Tryd.f3.params[j]? = some t → args[j]? = some v → Value.okWide Tryd.prog W .any base t v := hval0
  have hW' := hW
  obtain ⟨p, q, hA0, hV, rfl, hfz, hnd⟩ := hW
  have hA : DataW.TrodAll enc Tryd.prog W 0 (fun _ => true) true Tryd.f3.params.toList args.toList ds p := hA0
  rw [Tryd.params3] at hA hval
  obtain ⟨v0, vs0, d0, ds0, p0, q0, hargs, rfl, rfl, h0, r0⟩ := trodAll_cons hA
  obtain ⟨v1, vs1, d1, ds1, p1, q1, rfl, rfl, rfl, h1, r1⟩ := trodAll_cons r0
  obtain ⟨rfl, rfl, rfl⟩ := trodAll_nil r1
  obtain rfl : args = #[v0, v1] := by cases args; simp_all
  obtain ⟨rfl, rfl⟩ := trodVars_none hV
  obtain ⟨a0, rfl, rfl, rfl, w0⟩ := open_int Tryd.underlying3 (hval 0 3 v0 rfl rfl) h0
  obtain ⟨p1, L1, c1, rfl, hL1⟩ := open_sps (hval 1 22 v1 rfl rfl) h1
  clear hA0 hval0
  obtain ⟨hTab, hpos⟩ := tab_of hL
  refine (walk a0 p1 L1 c1 W hTab hpos w0 hL1).mono fun e W' ⟨he, hg⟩ => ?_
  subst he
  exact ⟨_, rfl, post_bel readable hW' rfl (fun _ _ _ => (trodAll_cons_mk (shut_bool Tryd.underlying4 _) trodAll_mk0)) rfl (fun _ => rfl)
    hg (ok_one (by kernel_rfl) rfl (okWide_bool_mk Tryd.underlying4 _))⟩

theorem over : Rows.HeapPlaysSaid :=
  OpenClaim.holds_of_wide 3 Tryd.f3 rfl rfl rfl rfl rfl rfl rfl ⟨rfl, rfl, rfl, rfl, rfl⟩ rfl rfl rfl rfl rfl (by kernel_rfl) Tryd.func3 (by kernel_rfl)
    (of_decide_eq_true (by kernel_rfl)) (by unfold Func.isWrapper; first | (rw [if_pos (by decide +kernel)]; kernel_rfl) | (rw [if_neg (by decide +kernel)]; exact ⟨rfl, rfl⟩))
    (fun os started H enc _ => lifted os started H enc)
end Go.Proofs.YtooblonafnlfcaaDoor.heapPlays
namespace Go.Proofs.YtooblonafnlfcaaDoor
theorem heapPlays_holds : Rows.HeapPlaysCardSaid :=
  Claim7.holds_tied_plain_at .later [] [.data] true (true, "b767f1769450228dc74670ef9fc0548c4ed2a596c62c776f9a54ab77b3249b2a") false
    heapPlays.over (fun _ h => by cases h) (by kernel_rfl) (fun _ h => by cases h) heapPlays_row_tie rfl ⟨rfl, rfl⟩ (by kernel_rfl) rfl
    (fun f fn hf hfn => by
      obtain rfl : f = 3 := Option.some.inj ((show Tryd.prog.funcNamed "warden/wardenlaw14.HeapPlays" = some 3 by kernel_rfl).symm.trans hf) |>.symm
      obtain rfl : fn = Tryd.f3 := (Option.some.inj (Tryd.func3.symm.trans hfn)).symm
      exact ⟨by kernel_rfl, fun j t ht => by
        rw [Tryd.params3] at ht
        have hm : t ∈ [3, 22] := by simpa using Array.mem_of_getElem? ht
        have hall : ([3, 22].all fun u => !Tryd.prog.wantsStandIn u) = true := by kernel_rfl
        exact (show Tryd.prog.wantsStandIn t = false by simpa using List.all_eq_true.1 hall t hm)⟩)
    (by kernel_rfl)
#print axioms heapPlays_holds
end Go.Proofs.YtooblonafnlfcaaDoor
