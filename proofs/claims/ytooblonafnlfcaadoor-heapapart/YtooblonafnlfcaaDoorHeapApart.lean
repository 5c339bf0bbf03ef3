/- HeapApart: objects make no difference to each other's counts, kinds and bytes, as long as there is room: one is what it is without the others (P14.2, P14.3), for every acts, every text: the statement as given, its table of classes tied to the text of the program. No condition beside those of the card itself. -/
import Derived.Test.YtooblonafnlfcaaDoorPN
import Derived.Deep.CutBlock
import Derived.Test.YtooblonafnlfcaaDoorCards
import Derived.Test.YtooblonafnlfcaaDoorTie
import Derived.WalkKit
import Derived.ProofKit
import Derived.OpenShut
import Derived.ShutString
import Derived.SevenTiedAt
namespace Go.Proofs.YtooblonafnlfcaaDoor.heapApart
open Go.ChangeShapes Go.WideShapes Go.ChangeAt Go.RowKit
set_option linter.unusedVariables false
set_option linter.unusedSimpArgs false
theorem own : ownKnob Tryd.prog.godebug = none := by kernel_rfl
open H
set_option maxRecDepth 100000 in
set_option maxHeartbeats 16000000 in
theorem walk (p0 : Option Addr) (L0 : List Sp) (c0 : Nat) (a1 : ByteArray) (w : World) (hT : Tab w) (h0 : 0 < w.heap.size) (hL0 : Sps w p0 L0) (w1 : a1.size ≤ maxLen) :
    Calls Tryd.prog 7 #[.slice p0 L0.length c0, .string a1] w fun e w' => e = .returned (.bool true) ∧ Below w.heap.size w w' := by
  have kh := heavy_any w p0 L0 c0 hL0
  have k9 := fun W hT h0 => hworks_any W hT h0
  obtain ⟨i34, hi34, hzi0, hzi1, hzi2⟩ := H.info_parts H.info34
  have works : ∀ (B : Nat) (W : World), Below B w W → w.heap.size = B → Calls Tryd.prog 9 #[] W fun e w' => e = .returned (.bool true) ∧ Below w.heap.size w w' := fun B W hb e => by
    subst e
    exact (k9 W (hT.gr h0 hb) (by have := hb.size; omega)).mono fun e w' ⟨a, b⟩ => ⟨a, hb.trans (b.mono hb.size)⟩
  by_cases hlen : L0.length ≤ 250
  case neg =>
    replace kh : Calls Tryd.prog 8 #[.slice p0 L0.length c0] w fun e w' => e = .returned (.bool true) ∧ w' = w := kh.mono fun e w' ⟨⟨b, e1, e2⟩, e3⟩ => by
      rcases e2 with e2 | rfl
      · exact absurd e2 hlen
      · exact ⟨e1, e3⟩
    have k9' := works _ w (Below.refl _ w) rfl
    go_enter Tryd.func7, Tryd.ntmps7
    go_wp2_with (first | (go_at_call 8; refine kh.mono ?_; rintro e w' ⟨rfl, hw⟩; rw [hw]; clear hw) | (go_at_call 9; refine k9'.mono ?_; rintro e w3 ⟨rfl, hb⟩))
    all_goals go_returns
    exact ⟨rfl, hb⟩
  case pos =>
  have d32 : decide ((32 : Int) < (a1.size : Int)) = decide (32 < a1.size) := by rw [decide_eq_decide]; omega
  have kh' : Calls Tryd.prog 8 #[.slice p0 L0.length c0] w fun e w' => (∃ b : Bool, e = .returned (.bool b)) ∧ w' = w := kh.mono fun e w' ⟨⟨b, e1, _⟩, e3⟩ => ⟨⟨b, e1⟩, e3⟩
  clear kh
  go_enter Tryd.func7, Tryd.ntmps7
  go_upto_region 1 with fail
  go_cut [40] (fun n40 wx => (n40 = .bool true ∨ (n40 = .bool false ∧ a1.size ≤ 32)) ∧ wx = w)
  case first =>
    by_cases h32 : 32 < a1.size
    · rw [decide_eq_true h32] at d32
      go_wp2_with (go_at_call 8; refine kh'.mono ?_; rintro e w' ⟨⟨hv, rfl⟩, hw⟩; rw [hw]; clear hw; cases hv)
      all_goals go_meet
      all_goals exact ⟨.inl rfl, rfl⟩
    · rw [decide_eq_false h32] at d32
      go_wp2_with (go_at_call 8; refine kh'.mono ?_; rintro e w' ⟨⟨hv, rfl⟩, hw⟩; rw [hw]; clear hw; cases hv)
      all_goals go_meet
      all_goals first | exact ⟨.inr ⟨rfl, by omega⟩, rfl⟩ | exact ⟨.inl rfl, rfl⟩
  case rest =>
  obtain ⟨hc, hw⟩ := hcut
  rw [hw]; clear hw
  rcases hc with rfl | ⟨rfl, h32⟩
  · have k9' := works _ w (Below.refl _ w) rfl
    go_wp2_with (go_at_call 9; refine k9'.mono ?_; rintro e w3 ⟨rfl, hb⟩)
    all_goals go_returns
    exact ⟨rfl, hb⟩
  clear d32 kh'
  have k1 := hnew_any (Yo := fun _ => False) 65536 (by omega) w (by simp)
  generalize hB0 : w.heap.size = B at k1 h0
  replace hB0 : Hid _ := hB0
  go_upto_region 4 with (go_at_call 10; refine k1.mono ?_; rintro e w1 ⟨qx, rfl, hX1, hb1⟩)
  have k2 := hnew_any (Yo := fun k => k < w1.heap.size) 65536 (by omega) w1 (fun k h => h)
  clear k1
  generalize hB2 : w1.heap.size = B2 at k2
  go_upto_region 7 with (go_at_call 10; refine k2.mono ?_; rintro e w2 ⟨qy, rfl, hY2, hb2⟩)
  have hs12 := hb2.size
  have hle : B ≤ B2 := by have := hX1.size; omega
  have hX2 : Hp (fun k => B2 ≤ k ∧ k < w2.heap.size) w2 B qx 65536 0 _ _ _ _ _ _ := hX1.far (fun k hk _ => hb2.block k (by omega)) (fun k h => h.2) (fun k hk _ h => by have := h.1; omega)
  have bl2 : Below B w w2 := hb1.trans (hb2.mono hle)
  have T2 := hT.gr h0 bl2
  have k3 := hmake_ok w2 _ _ _ _ _ _ _ _ _ _ hX2 T2 h0 3 32 (by omega) (by decide) (by omega)
  have k3' : Calls Tryd.prog 13 #[.pointer (some ⟨qx.b, 0, none⟩), .int .i64 3, .int .i64 32] w2 fun e w' => e = .returned (.tuple #[.agg #[.int .i64 0, .int .u64 1], .int .i64 0]) ∧ Hz (fun k => B2 ≤ k ∧ k < w2.heap.size) w' B qx 1 1 (List.replicate 32 0) ∧ Fq (fun k => B2 ≤ k ∧ k < w2.heap.size) B qx w2 w' :=
    k3.mono fun e w' ⟨k, he, hk1, hk2, ⟨ns, A, K, hx⟩, hF⟩ => by
      obtain rfl := first0 rfl hk2
      exact ⟨he, ⟨_, _, _, ns, A, K, hx, updM_self _ _ _⟩, hF⟩
  clear k2 k3
  go_upto_region 8 with (go_at_call 13; refine k3'.mono ?_; rintro e v3 ⟨rfl, hZ3, hF3⟩)
  have za := heap_alloc_new v3 (.cells #[.int .i64 0, .int .u64 1] 34)
  have hbn : Below v3.heap.size v3 (v3.alloc (.cells #[.int .i64 0, .int .u64 1] 34)) := (Below.refl _ v3).alloc (Nat.le_refl _) _
  have bl3 : Below B w (v3.alloc (.cells #[.int .i64 0, .int .u64 1] 34)) := (bl2.trans hF3.bel).alloc hZ3.bdd.2 _
  have hs23 := hF3.bel.size
  have hs3 := hbn.size
  have hX3 : Hz (fun k => B2 ≤ k ∧ k < w2.heap.size) (v3.alloc (.cells #[.int .i64 0, .int .u64 1] 34)) B qx 1 1 (List.replicate 32 0) := hZ3.far (fun k hk _ => hbn.block k hk) (fun k h => by have := h.2; omega) (fun k _ h => h)
  have hY3 : Hp (fun k => k < (v3.alloc (.cells #[.int .i64 0, .int .u64 1] 34)).heap.size ∧ ¬ (B2 ≤ k ∧ k < w2.heap.size)) (v3.alloc (.cells #[.int .i64 0, .int .u64 1] 34)) B2 qy 65536 0 _ _ _ _ _ _ :=
    hY2.far (fun k hk hn => (hbn.block k (by omega)).trans (hF3.far k ⟨by omega, hk⟩ hk)) (fun k h => h.1) (fun k hk hn h => h.2 ⟨by omega, hk⟩)
  clear k3' hbn
  generalize v3.alloc (.cells #[.int .i64 0, .int .u64 1] 34) = w3 at za bl3 hs3 hX3 hY3 ⊢
  generalize v3.heap.size = za' at za ⊢
  have T3 := hT.gr h0 bl3
  have k4 := hmake_ok w3 _ _ _ _ _ _ _ _ _ _ hY3 T3 (by omega) 3 32 (by omega) (by decide) (by omega)
  have k4' : Calls Tryd.prog 13 #[.pointer (some ⟨qy.b, 0, none⟩), .int .i64 3, .int .i64 32] w3 fun e w' => e = .returned (.tuple #[.agg #[.int .i64 0, .int .u64 1], .int .i64 0]) ∧ Hz (fun k => k < w3.heap.size ∧ ¬ (B2 ≤ k ∧ k < w2.heap.size)) w' B2 qy 1 1 (List.replicate 32 0) ∧ Fq (fun k => k < w3.heap.size ∧ ¬ (B2 ≤ k ∧ k < w2.heap.size)) B2 qy w3 w' :=
    k4.mono fun e w' ⟨k, he, hk1, hk2, ⟨ns, A, K, hx⟩, hF⟩ => by
      obtain rfl := first0 rfl hk2
      exact ⟨he, ⟨_, _, _, ns, A, K, hx, updM_self _ _ _⟩, hF⟩
  have za4' := fun (v4 : World) (hF : Fq (fun k => k < w3.heap.size ∧ ¬ (B2 ≤ k ∧ k < w2.heap.size)) B2 qy w3 v4) => hF.at34 hY3 za
  clear k4
  go_upto_region 9 with (go_at_call 13; refine k4'.mono ?_; rintro e v4 ⟨rfl, hZ4, hF4⟩)
  have za4 := heap_al (za4' v4 hF4) (.cells #[.int .i64 0, .int .u64 1] 34)
  have zb := heap_alloc_new v4 (.cells #[.int .i64 0, .int .u64 1] 34)
  have hbn : Below v4.heap.size v4 (v4.alloc (.cells #[.int .i64 0, .int .u64 1] 34)) := (Below.refl _ v4).alloc (Nat.le_refl _) _
  have bl4 : Below B w (v4.alloc (.cells #[.int .i64 0, .int .u64 1] 34)) := (bl3.trans (hF4.bel.mono hle)).alloc (by have := hZ4.bdd.2; omega) _
  have hs34 := hF4.bel.size
  have hs4 := hbn.size
  have hY4 : Hz (fun k => k < w3.heap.size ∧ ¬ (B2 ≤ k ∧ k < w2.heap.size)) (v4.alloc (.cells #[.int .i64 0, .int .u64 1] 34)) B2 qy 1 1 (List.replicate 32 0) := hZ4.far (fun k hk _ => hbn.block k hk) (fun k h => by have := h.1; omega) (fun k _ h => h)
  have hX4 : Hz (fun k => k < (v4.alloc (.cells #[.int .i64 0, .int .u64 1] 34)).heap.size ∧ ¬ (k < w3.heap.size ∧ ¬ (B2 ≤ k ∧ k < w2.heap.size))) (v4.alloc (.cells #[.int .i64 0, .int .u64 1] 34)) B qx 1 1 (List.replicate 32 0) :=
    hX3.far (fun k hk hn => (hbn.block k (by omega)).trans (hF4.far k ⟨hk, hn⟩ hk)) (fun k h => h.1) (fun k hk hn h => h.2 ⟨hk, hn⟩)
  clear k4' hbn za4' hY3 hX3
  generalize v4.alloc (.cells #[.int .i64 0, .int .u64 1] 34) = w4 at za4 zb bl4 hs4 hX4 hY4 ⊢
  generalize v4.heap.size = zb' at zb ⊢
  have hap4 : Ap (fun k => k < w4.heap.size ∧ ¬ (k < w3.heap.size ∧ ¬ (B2 ≤ k ∧ k < w2.heap.size))) w4 B B2 qx qy 1 1 1 (List.replicate 32 0) :=
    ⟨hX4, hY4.far (fun _ _ _ => rfl) (fun k h => h.1) (fun k hk hn h => h.2 ⟨hk, hn⟩), hT.gr h0 bl4, hle, h0⟩
  clear hX4 hY4 hF4 hZ4 za hZ3 hF3 hX1 hY2 hX2
  have t0 := (cell_of za4 0).trans (show _ = some (Value.int .i64 0) from rfl)
  have t1 := (cell_of za4 1).trans (show _ = some (Value.int .u64 1) from rfl)
  have k5 := hap4.x.write w4 _ _ _ _ _ a1 (by rw [List.length_replicate]; exact h32) (by simp)
  generalize (fun k => k < w4.heap.size ∧ ¬ (k < w3.heap.size ∧ ¬ (B2 ≤ k ∧ k < w2.heap.size))) = Y at hap4 k5
  go_upto_region 10 with (go_at_call 27; refine k5.mono ?_; rintro e w5 ⟨⟨r5, rfl⟩, hX5, hF5, hK5⟩)
  have hY5 := hap4.y.beside fun k hl hk => hF5.far k hk hl
  have za5 := hK5.2 _ _ _ _ za4 (by decide)
  have zb5 := hK5.2 _ _ _ _ zb (by decide)
  have bl5 := bl4.trans hK5.1
  clear t0 t1 k5
  have t0 := (cell_of zb5 0).trans (show _ = some (Value.int .i64 0) from rfl)
  have t1 := (cell_of zb5 1).trans (show _ = some (Value.int .u64 1) from rfl)
  have k6 := hY5.write w5 _ _ _ _ _ a1 (by rw [List.length_replicate]; exact h32) (by simp)
  generalize wr (List.replicate 32 0) 0 a1 = bs at k6 hX5
  go_upto_region 11 with (go_at_call 27; refine k6.mono ?_; rintro e w6 ⟨⟨r6, rfl⟩, hY6, hF6, hK6⟩)
  obtain ⟨Y6, hX6, hY6'⟩ := hX5.beside2 hF6 hY6
  have za6 := hK6.2 _ _ _ _ za5 (by decide)
  have zb6 := hK6.2 _ _ _ _ zb5 (by decide)
  have bl6 := bl5.trans (hK6.1.mono hle)
  have hap6 : Ap Y6 w6 B B2 qx qy 1 1 1 bs := ⟨hX6, hY6', hT.gr h0 bl6, hle, h0⟩
  clear t0 t1 k6 hap4 hX5 hF5 hY5 hY6 hF6 hX6 hY6' za4 zb za5 zb5 hK5 hK6
  have hR1 : Hid (Sps w p0 L0) := hL0
  clear hL0
  go_wp2
  have hrow0 : (w6.alloc (.cells #[] 34)).ownsRow w6.heap.size 34 2 (.slice (some ⟨w6.heap.size, 0, none⟩) 0 0) 0 (hCells []) :=
    ⟨rfl, .inr ⟨w6.heap.size, 0, #[], rfl, Nat.le_refl _, heap_alloc_new w6 _, Nat.le_refl _, by simp [maxLen], rfl, rfl⟩⟩
  have hbn : Below w6.heap.size w6 (w6.alloc (.cells #[] 34)) := (Below.refl _ w6).alloc (Nat.le_refl _) _
  have hap7 := hap6.below hbn (show 1 ≤ 10 by omega) (by omega)
  have za7 := heap_al za6 (.cells #[] 34)
  have zb7 := heap_al zb6 (.cells #[] 34)
  have bl7 : Below B w (w6.alloc (.cells #[] 34)) := bl6.alloc hap6.x.bdd.2 _
  have hzr : za' < w6.heap.size ∧ zb' < w6.heap.size ∧ B ≤ w6.heap.size := ⟨heap_lt za6, heap_lt zb6, hap6.x.bdd.2⟩
  have hzr7 : w6.heap.size ≤ (w6.alloc (.cells #[] 34)).heap.size := hbn.size
  clear hbn hap6 za6 zb6 bl6
  generalize w6.alloc (.cells #[] 34) = w7 at hrow0 hap7 za7 zb7 bl7 hzr7 ⊢
  generalize w6.heap.size = zr at hrow0 hzr hzr7 ⊢
  go_loopw [13, 14] (fun n13 n14 wr => ∃ (i : Nat) (X : List HKey) (p : Option Addr) (c : Nat) (cc : Int), n14 = .int .i64 i ∧ n13 = .slice p X.length c ∧ i ≤ L0.length ∧ Ap Y6 wr B B2 qx qy (3 * i + 10) cc cc bs ∧ wr.ownsRow zr 34 2 (.slice p X.length c) X.length (hCells X) ∧ zr ≤ wr.heap.size ∧ (∀ k ∈ X, ¬ (k.1 = 0 ∧ k.2 = 1)) ∧ X.length ≤ i ∧ wr.heap[za']? = some (.cells #[.int .i64 0, .int .u64 1] 34 (0, 0)) ∧ wr.heap[zb']? = some (.cells #[.int .i64 0, .int .u64 1] 34 (0, 0)) ∧ Below B w wr) (fun _ n14 _ => L0.length - (valOf n14).toNat)
  case atStart => exact ⟨0, [], some ⟨zr, 0, none⟩, 0, 1, rfl, rfl, by omega, hap7, hrow0, hzr7, by simp, by simp, za7, zb7, bl7⟩
  case round =>
    obtain ⟨i, X, p, c, cc, rfl, rfl, hi, hA, hrow, hzw, hXn, hXl, za, zb, hbl⟩ := hrel
    replace hXn : Hid _ := hXn
    have hwr := hA.x.bdd.2
    by_cases hin : i < L0.length
    · have dA : decide ((i : Int) < L0.length) = true := by simp; omega
      have e9 : IntKind.i64.wrap ((i : Int) + 1) = (i : Int) + 1 := IntWalk.i64_in _ (by omega)
      obtain ⟨xb, xo, x, hxL, hxo, hxa, hxb, hix⟩ := idx36n hR1.out hin
      obtain ⟨q0, q1, q2, q3, q4, q5, q6, q7⟩ := hxa.below hbl (by have := hB0.out; omega)
      have hix' := hix c0
      go_upto_region 16 with fail
      have hz1 := heap_alloc_new wr (.cells (spC x) 36)
      have hbn : Below wr.heap.size wr (wr.alloc (.cells (spC x) 36)) := (Below.refl _ wr).alloc (Nat.le_refl _) _
      have hbl1 : Below B w (wr.alloc (.cells (spC x) 36)) := hbl.alloc hwr _
      have hA1 := hA.below hbn (Nat.le_refl _) (by omega)
      have hrow1 := hrow.alloc (.cells (spC x) 36)
      have hzw1 : zr ≤ (wr.alloc (.cells (spC x) 36)).heap.size := Nat.le_trans hzw hbn.size
      have za1 := heap_al za (.cells (spC x) 36)
      have zb1 := heap_al zb (.cells (spC x) 36)
      clear q0 q1 q2 q3 q4 q5 q6 q7 hix hix' hxa hbn za zb hrow
      generalize hW1 : wr.alloc (.cells (spC x) 36) = W1 at hz1 hA1 hbl1 hrow1 hzw1 za1 zb1
      simp only [spC] at hW1
      simp only [hW1]
      generalize wr.heap.size = z1 at hz1 ⊢
      clear hW1
      have c0' := (cell_of hz1 0).trans (show _ = some (Value.int .i64 x.d) from rfl)
      have c2' := (cell_of hz1 2).trans (show _ = some (Value.int .i64 x.k) from rfl)
      by_cases hd0 : x.d = 0
      · rw [hd0] at c0'
        have kM := apx_make W1 _ _ _ _ _ _ _ _ hA1 x.k (by omega)
        go_upto_region 18 with (go_at_call 13; refine kM.mono ?_; rintro e v1 ⟨⟨hs, hg, r, rfl, hne⟩, hA2, hK2⟩)
        have hbn : Below v1.heap.size v1 (v1.alloc (.cells #[.int .i64 hs, .int .u64 hg] 34)) := (Below.refl _ v1).alloc (Nat.le_refl _) _
        have hA3 := hA2.below hbn (Nat.le_refl _) (by omega)
        have hrow2 := (row_kp hrow1 hK2).alloc (.cells #[.int .i64 hs, .int .u64 hg] 34)
        have za2 := heap_al (hK2.2 _ _ _ _ za1 (by decide)) (.cells #[.int .i64 hs, .int .u64 hg] 34)
        have zb2 := heap_al (hK2.2 _ _ _ _ zb1 (by decide)) (.cells #[.int .i64 hs, .int .u64 hg] 34)
        have hzw2 : zr ≤ (v1.alloc (.cells #[.int .i64 hs, .int .u64 hg] 34)).heap.size := Nat.le_trans hzw1 (Nat.le_trans hK2.1.size hbn.size)
        have hz2 := heap_al (hK2.2 _ _ _ _ hz1 (by decide)) (.cells #[.int .i64 hs, .int .u64 hg] 34)
        have hy2 := heap_alloc_new v1 (.cells #[.int .i64 hs, .int .u64 hg] 34)
        have hbl2 : Below B w (v1.alloc (.cells #[.int .i64 hs, .int .u64 hg] 34)) := (hbl1.trans hK2.1).alloc hA2.x.bdd.2 _
        clear kM hbn c0' c2'
        generalize v1.alloc (.cells #[.int .i64 hs, .int .u64 hg] 34) = W2 at hA3 hrow2 hzw2 za2 zb2 hz2 hy2 hbl2 ⊢
        generalize v1.heap.size = z2 at hy2 ⊢
        have y0 := (cell_of hy2 0).trans (show _ = some (Value.int .i64 hs) from rfl)
        have y1 := (cell_of hy2 1).trans (show _ = some (Value.int .u64 (hg : Int)) from rfl)
        have hW2 := hA3.x.bdd.2
        have dX : decide ((0 : Int) < ((X.length : Nat) : Int) + 1) = true := decide_eq_true (by omega)
        go_upto_region 19 with (at_builtin; go_loud (refine wpList_append_own_at _ rfl _ _ 31 rfl zr 34 i34 (.agg #[.int .i64 0, .int .u64 0]) 2 16 Tryd.underlying31 hi34 hzi0 hzi1 hzi2 rfl (by decide) (.slice p X.length c) X.length (hCells X) rfl (hrow2.alloc _) _ 1 1 [.int .i64 hs, .int .u64 hg] rfl rfl (news_new _ _ _ _ rfl) (by simp [Value.oneCell']) (by simp [maxLen]; omega) (by omega) (by simp; omega) ?_; intro v' W4 hown hgrow hnil hloc; obtain ⟨p', c', rfl⟩ : ∃ p cap, v' = .slice p (X.length + 1) cap := H.own_shape hown))
        have hb4 : Below B W2 W4 := ((Below.refl B W2).alloc hW2 _).grown hgrow (by simp; omega) (fun k e => by have := (hrow2.lt k e).1; omega)
        have hk4 : ∀ (k : Nat) (o : Obj), W2.heap[k]? = some o → some k ≠ (Value.slice p X.length c).ownBlock → W4.heap[k]? = some o := fun k o e hne => (hgrow.block k (heap_lt (heap_al e _)) hne).trans (heap_al e _)
        have hA4 := hA3.grow (fun k o e hn => hk4 k o e (fun q => by obtain ⟨cur, e2⟩ := row_cells hrow2 q.symm; rw [e2] at e; cases e; exact hn _ _ rfl)) hb4
        have za4 := hk4 _ _ za2 (fun q => by have := (hrow2.lt _ q.symm).1; omega)
        have zb4 := hk4 _ _ zb2 (fun q => by have := (hrow2.lt _ q.symm).1; omega)
        have hz4 := hk4 _ _ hz2 (fun q => by obtain ⟨cur, e2⟩ := row_cells hrow2 q.symm; rw [e2] at hz2; cases hz2)
        have c0' := (cell_of hz4 0).trans (show _ = some (Value.int .i64 x.d) from rfl)
        rw [hd0] at c0'
        clear y0 y1
        go_wp2
        refine ⟨⟨i + 1, X ++ [(hs, hg)], p', c', cc, by simp, by simp, by omega, hA4.below (Below.refl _ _) (by omega) (by omega), ?_, by have := hb4.size; omega, ?_, by simp; omega, za4, zb4, hbl2.trans hb4⟩, by simp [valOf]; omega⟩
        · rw [hCells_app, List.length_append]
          simpa [hCells] using hown
        · intro k hk
          rw [List.mem_append, List.mem_singleton] at hk
          rcases hk with hk | rfl
          · exact hXn.out k hk
          · exact hne
      · have d0 : (x.d == 0) = false := by simpa using hd0
        go_upto_region 19 with fail
        go_cut [114] (fun n114 wx => n114 = .bool (decide (0 < X.length)) ∧ wx = W1)
        case first =>
          by_cases hX0 : X.length = 0
          · have dX : decide ((0 : Int) < ((X.length : Nat) : Int)) = false := decide_eq_false (by omega)
            have dX2 : decide (0 < X.length) = false := decide_eq_false (by omega)
            go_wp2
            all_goals go_meet
            all_goals exact ⟨by rw [dX2], rfl⟩
          · have dX : decide ((0 : Int) < ((X.length : Nat) : Int)) = true := decide_eq_true (by omega)
            have dX2 : decide (0 < X.length) = true := decide_eq_true (by omega)
            go_wp2
            all_goals go_meet
            all_goals exact ⟨by rw [dX2] <;> simp [hd0], rfl⟩
        case rest =>
        obtain ⟨rfl, hwc⟩ := hcut
        rw [hwc]; clear hwc
        generalize hq : decide (0 < X.length) = q114
        replace hq : Hid _ := hq
        go_upto_if 114 with fail
        go_cut [] (fun wx => Ap Y6 wx B B2 qx qy (3 * i + 11) cc cc bs ∧ wx.ownsRow zr 34 2 (.slice p X.length c) X.length (hCells X) ∧ zr ≤ wx.heap.size ∧ wx.heap[za']? = some (.cells #[.int .i64 0, .int .u64 1] 34 (0, 0)) ∧ wx.heap[zb']? = some (.cells #[.int .i64 0, .int .u64 1] 34 (0, 0)) ∧ wx.heap[z1]? = some (.cells (spC x) 36 (0, 0)) ∧ Below B w wx)
        case first =>
          cases q114 with
          | false =>
            go_wp2
            all_goals go_meet
            all_goals exact ⟨hA1.below (Below.refl _ _) (by omega) (by omega), hrow1, hzw1, za1, zb1, hz1, hbl1⟩
          | true =>
            have hX0 : 0 < X.length := of_decide_eq_true hq.out
            obtain ⟨gb, ⟨hs, hg⟩, hxk, hgl, hgo, hc0, hc1, hai⟩ := idx34 (A := X) (j := X.length - 1) hrow1 (by omega) (by omega)
            simp only at hc0 hc1
            have hne := hXn.out _ (List.mem_of_getElem? hxk)
            simp only at hne
            have hsub : IntKind.i64.wrap (((X.length : Nat) : Int) - 1) = ((X.length - 1 : Nat) : Int) := by rw [IntWalk.i64_in _ (by omega)]; omega
            generalize hj : X.length - 1 = j at hc0 hc1 hai hsub hxk
            replace hj : Hid _ := hj
            have hAd := hA1.below (Below.refl _ W1).drew (Nat.le_refl _) (by omega)
            have kn := rnew_any W1.drew
            have C := fun k v (e : (spC x)[k]? = some v) => (cell_of hz1 k).trans e
            have d0' := C 0 (.int .i64 x.d) rfl
            have d1' := C 1 (.int .i64 x.o) rfl
            have d2' := C 2 (.int .i64 x.k) rfl
            have d3' := C 3 (.int .i64 x.a) rfl
            have d4' := C 4 (.int .i64 x.n) rfl
            have d5' := C 5 (.string x.s) rfl
            have d6' := C 6 (.int .i64 x.h) rfl
            have d7' := C 7 (.int .u64 x.g) rfl
            clear C
            go_upto_region 20 with fail
            go_region_held3 (fun w' => w'.cell? ⟨z1, 0, none⟩ = some (.int .i64 x.d) ∧ w'.cell? ⟨z1, 1, none⟩ = some (.int .i64 x.o) ∧ w'.cell? ⟨z1, 2, none⟩ = some (.int .i64 x.k) ∧ w'.cell? ⟨z1, 3, none⟩ = some (.int .i64 x.a) ∧ w'.cell? ⟨z1, 4, none⟩ = some (.int .i64 x.n) ∧ w'.cell? ⟨z1, 5, none⟩ = some (.string x.s) ∧ w'.cell? ⟨z1, 6, none⟩ = some (.int .i64 x.h) ∧ w'.cell? ⟨z1, 7, none⟩ = some (.int .u64 x.g) ∧ w'.cell? ⟨gb, j * 2, none⟩ = some (.int .i64 hs) ∧ w'.cell? ⟨gb, j * 2 + 1, none⟩ = some (.int .u64 hg)) ((refine ⟨?_, ?_, ?_, ?_, ?_, ?_, ?_, ?_, ?_, ?_⟩ <;> repeat (with_reducible (first | assumption | apply H.cell_dr | apply H.cell_al)))) (first
              | (go_at_call 11; go_loud (refine kn.mono ?_; rintro e v1 ⟨⟨r, u, v, rfl, hr⟩, hb1⟩; have hzv := (hb1.block _ (heap_lt hz1)).trans hz1; have hrowv := row_kept hrow1 (fun g hg => (hb1.block _ (by obtain ⟨c, e⟩ := row_cells hrow1 hg; exact heap_lt e))); have f0 := (cell_of hzv 0).trans (show _ = some (Value.int .i64 x.d) from rfl); have f1 := (cell_of hzv 1).trans (show _ = some (Value.int .i64 x.o) from rfl); have f2 := (cell_of hzv 2).trans (show _ = some (Value.int .i64 x.k) from rfl); have f3 := (cell_of hzv 3).trans (show _ = some (Value.int .i64 x.a) from rfl); have f4 := (cell_of hzv 4).trans (show _ = some (Value.int .i64 x.n) from rfl); have f5 := (cell_of hzv 5).trans (show _ = some (Value.string x.s) from rfl); have f6 := (cell_of hzv 6).trans (show _ = some (Value.int .i64 x.h) from rfl); have f7 := (cell_of hzv 7).trans (show _ = some (Value.int .u64 (x.g : Int)) from rfl); have g0 := (hb1.cell (p := ⟨gb, j * 2, none⟩) hgl).trans hc0; have g1 := (hb1.cell (p := ⟨gb, j * 2 + 1, none⟩) hgl).trans hc1; have hAv := hAd.below hb1 (Nat.le_refl _) (by omega); have kd := apx_does v1 _ _ _ _ _ _ _ _ hAv (by omega) r u v hr x hxo hs hg hne; unfold spV at kd))
              | (go_at_call 15; go_loud (refine kd.mono ?_; rintro e v2 ⟨⟨b, rfl⟩, hA2, hK2⟩; have hzx := hK2.2 _ _ _ _ hzv (by decide); have hrowx := row_kp hrowv hK2; have p0 := (cell_of hzx 0).trans (show _ = some (Value.int .i64 x.d) from rfl); have p1 := (cell_of hzx 1).trans (show _ = some (Value.int .i64 x.o) from rfl); have p2 := (cell_of hzx 2).trans (show _ = some (Value.int .i64 x.k) from rfl); have p3 := (cell_of hzx 3).trans (show _ = some (Value.int .i64 x.a) from rfl); have p4 := (cell_of hzx 4).trans (show _ = some (Value.int .i64 x.n) from rfl); have p5 := (cell_of hzx 5).trans (show _ = some (Value.string x.s) from rfl); have p6 := (cell_of hzx 6).trans (show _ = some (Value.int .i64 x.h) from rfl); have p7 := (cell_of hzx 7).trans (show _ = some (Value.int .u64 (x.g : Int)) from rfl); have r0 : v2.cell? ⟨gb, j * 2, none⟩ = some (.int .i64 hs) := (by obtain ⟨cur, e⟩ := row_cells hrowv hgo; rw [cell_of e] at g0; rw [cell_of (hK2.2 _ _ _ _ e (by decide))]; exact g0); have r1 : v2.cell? ⟨gb, j * 2 + 1, none⟩ = some (.int .u64 hg) := (by obtain ⟨cur, e⟩ := row_cells hrowv hgo; rw [cell_of e] at g1; rw [cell_of (hK2.2 _ _ _ _ e (by decide))]; exact g1))))
            all_goals go_wp2_with fail
            all_goals go_meet
            all_goals exact ⟨hA2.below (Below.refl _ _) (by omega) (by omega), hrowx, Nat.le_trans hzw1 (Nat.le_trans hb1.size hK2.1.size), hK2.2 _ _ _ _ ((hb1.block _ (heap_lt za1)).trans za1) (by decide), hK2.2 _ _ _ _ ((hb1.block _ (heap_lt zb1)).trans zb1) (by decide), hzx, (hbl1.drew.trans (hb1.mono hA1.x.bdd.2)).trans hK2.1⟩
        case rest =>
          obtain ⟨hA2, hrow2, hzw2, za2, zb2, hz2, hbl2⟩ := hcut
          clear c0' c2'
          have c0' := (cell_of hz2 0).trans (show _ = some (Value.int .i64 x.d) from rfl)
          have t0 := (cell_of za2 0).trans (show _ = some (Value.int .i64 0) from rfl)
          have t1 := (cell_of za2 1).trans (show _ = some (Value.int .u64 1) from rfl)
          by_cases e1 : x.d = 1
          · have b1 : (x.d == 1) = true := by simp [e1]
            have b2 : (x.d == 2) = false := by simp [e1]
            replace e1 : Hid _ := e1
            have kx := apx_hold wc _ _ _ _ _ _ _ _ hA2 (by omega)
            go_upto_region 23 with (go_at_call 23; refine kx.mono ?_; rintro e v1 ⟨rfl, hA3, hK3⟩)
            have za3 := hK3.2 _ _ _ _ za2 (by decide)
            have zb3 := hK3.2 _ _ _ _ zb2 (by decide)
            have hz3 := hK3.2 _ _ _ _ hz2 (by decide)
            have hrow3 := row_kp hrow2 hK3
            have hbl3 := hbl2.trans hK3.1
            have hzw3 := Nat.le_trans hzw2 hK3.1.size
            clear t0 t1 kx c0'
            have t0 := (cell_of zb3 0).trans (show _ = some (Value.int .i64 0) from rfl)
            have t1 := (cell_of zb3 1).trans (show _ = some (Value.int .u64 1) from rfl)
            have ky := apy_hold v1 _ _ _ _ _ _ _ _ hA3 (by omega)
            go_upto_region 24 with (go_at_call 23; refine ky.mono ?_; rintro e v2 ⟨rfl, hA4, hK4⟩)
            have za4 := hK4.2 _ _ _ _ za3 (by decide)
            have zb4 := hK4.2 _ _ _ _ zb3 (by decide)
            have hz4 := hK4.2 _ _ _ _ hz3 (by decide)
            have hrow4 := row_kp hrow3 hK4
            have hbl4 := hbl3.trans hK4.1
            have hzw4 := Nat.le_trans hzw3 hK4.1.size
            clear t0 t1 ky
            have c0' := (cell_of hz4 0).trans (show _ = some (Value.int .i64 x.d) from rfl)
            go_wp2
            exact ⟨⟨i + 1, X, p, c, cc + 1, by simp, rfl, by omega, hA4.below (Below.refl _ _) (by omega) (by omega), hrow4, hzw4, hXn.out, by omega, za4, zb4, hbl4⟩, by simp [valOf]; omega⟩
          have b1 : (x.d == 1) = false := by simp [e1]
          by_cases e2 : x.d = 2
          · have b2 : (x.d == 2) = true := by simp [e2]
            replace e2 : Hid _ := e2
            have kx := apx_drop wc _ _ _ _ _ _ _ _ hA2 (by omega)
            go_upto_region 28 with (go_at_call 24; refine kx.mono ?_; rintro e v1 ⟨rfl, hA3, hK3⟩)
            have za3 := hK3.2 _ _ _ _ za2 (by decide)
            have zb3 := hK3.2 _ _ _ _ zb2 (by decide)
            have hz3 := hK3.2 _ _ _ _ hz2 (by decide)
            have hrow3 := row_kp hrow2 hK3
            have hbl3 := hbl2.trans hK3.1
            have hzw3 := Nat.le_trans hzw2 hK3.1.size
            clear t0 t1 kx c0'
            have t0 := (cell_of zb3 0).trans (show _ = some (Value.int .i64 0) from rfl)
            have t1 := (cell_of zb3 1).trans (show _ = some (Value.int .u64 1) from rfl)
            have ky := apy_drop v1 _ _ _ _ _ _ _ _ hA3 (by omega)
            go_upto_region 29 with (go_at_call 24; refine ky.mono ?_; rintro e v2 ⟨rfl, hA4, hK4⟩)
            have za4 := hK4.2 _ _ _ _ za3 (by decide)
            have zb4 := hK4.2 _ _ _ _ zb3 (by decide)
            have hz4 := hK4.2 _ _ _ _ hz3 (by decide)
            have hrow4 := row_kp hrow3 hK4
            have hbl4 := hbl3.trans hK4.1
            have hzw4 := Nat.le_trans hzw3 hK4.1.size
            clear t0 t1 ky
            have c0' := (cell_of hz4 0).trans (show _ = some (Value.int .i64 x.d) from rfl)
            go_wp2
            exact ⟨⟨i + 1, X, p, c, dcC cc, by simp, rfl, by omega, hA4.below (Below.refl _ _) (by omega) (by omega), hrow4, hzw4, hXn.out, by omega, za4, zb4, hbl4⟩, by simp [valOf]; omega⟩
          have b2 : (x.d == 2) = false := by simp [e2]
          go_wp2
          exact ⟨⟨i + 1, X, p, c, cc, by simp, rfl, by omega, hA2.below (Below.refl _ _) (by omega) (by omega), hrow2, hzw2, hXn.out, by omega, za2, zb2, hbl2⟩, by simp [valOf]; omega⟩
    · have dA : decide ((i : Int) < L0.length) = false := by simp; omega
      have kx := apz_read wr _ _ _ _ _ hA.x
      have t0 := (cell_of za 0).trans (show _ = some (Value.int .i64 0) from rfl)
      have t1 := (cell_of za 1).trans (show _ = some (Value.int .u64 1) from rfl)
      generalize hS : inS bs 0 32 = S0 at kx
      generalize hE : inE bs 0 32 = E0 at kx
      replace hS : Hid _ := hS
      replace hE : Hid _ := hE
      go_upto_region 32 with (go_at_call 26; refine kx.mono ?_; rintro e v1 ⟨rfl, hb1⟩)
      have hA1 := hA.below hb1 (Nat.le_refl _) (by omega)
      have za1 := (hb1.block _ (heap_lt za)).trans za
      have zb1 := (hb1.block _ (heap_lt zb)).trans zb
      have bl1 := hbl.trans (hb1.mono hwr)
      clear t0 t1 kx
      have t0 := (cell_of zb1 0).trans (show _ = some (Value.int .i64 0) from rfl)
      have t1 := (cell_of zb1 1).trans (show _ = some (Value.int .u64 1) from rfl)
      have ky := apz_read v1 _ _ _ _ _ hA1.y
      rw [hS.out, hE.out] at ky
      go_upto_region 33 with (go_at_call 26; refine ky.mono ?_; rintro e v2 ⟨rfl, hb2⟩)
      have hA2 := hA1.below hb2 (Nat.le_refl _) (by omega)
      have za2 := (hb2.block _ (heap_lt za1)).trans za1
      have zb2 := (hb2.block _ (heap_lt zb1)).trans zb1
      have bl2 := bl1.trans (hb2.mono hA1.x.bdd.2)
      clear t0 t1 ky
      have t0 := (cell_of za2 0).trans (show _ = some (Value.int .i64 0) from rfl)
      have t1 := (cell_of za2 1).trans (show _ = some (Value.int .u64 1) from rfl)
      have kx := apz_count v2 _ _ _ _ _ hA2.x
      go_upto_region 34 with (go_at_call 16; refine kx.mono ?_; rintro e v3 ⟨rfl, hb3⟩)
      have hA3 := hA2.below hb3 (Nat.le_refl _) (by omega)
      have zb3 := (hb3.block _ (heap_lt zb2)).trans zb2
      have bl3 := bl2.trans (hb3.mono hA2.x.bdd.2)
      clear t0 t1 kx
      have t0 := (cell_of zb3 0).trans (show _ = some (Value.int .i64 0) from rfl)
      have t1 := (cell_of zb3 1).trans (show _ = some (Value.int .u64 1) from rfl)
      have ky := apz_count v3 _ _ _ _ _ hA3.y
      go_upto_region 35 with (go_at_call 16; refine ky.mono ?_; rintro e v4 ⟨rfl, hb4⟩)
      have bl4 := bl3.trans (hb4.mono hA3.x.bdd.2)
      have k9' := works _ v4 bl4 hB0.out
      go_wp2_with (go_at_call 9; refine k9'.mono ?_; rintro e v5 ⟨rfl, hb5⟩)
      all_goals go_returns
      all_goals exact ⟨rfl, hb5⟩

theorem readable : ∀ t ∈ Tryd.f7.params.toList, Tryd.prog.readableRec t = true ∧ t < Tryd.prog.types.size := by
  rw [Tryd.params7]
  intro t ht
  simp at ht
  rcases ht with rfl | rfl
  all_goals exact ⟨by kernel_rfl, of_decide_eq_true (by kernel_rfl)⟩
set_option maxRecDepth 100000 in
theorem lifted (os : Os) (started : os.Started) (H : Type) (enc : TypeId × Value → H) :
    ReturnsInHanded {} Tryd.checked os 7 .any (fun w args => (Rows.heapApartSpec.pre enc Tryd.prog Tryd.f7 [] false w args ∧ laidMetH Tryd.prog laidL w) ∧ sizedMet enc Tryd.prog Tryd.f7 (OpenSpec.ofChange Rows.heapApartSpec) false w args) (Rows.heapApartSpec.post enc Tryd.prog Tryd.f7 false true false false) := by
  refine returnsInHanded_of_change_and (C := Tryd.checked) (X := fun w _ => laidMetH Tryd.prog laidL w) (fun _ _ _ hh h => h.of_heap hh) own started (by kernel_rfl) Tryd.func7
    (ChangeSpec.witness_shaped (enc := enc) (C := Tryd.checked) (os := os) (X := fun w _ => laidMetH Tryd.prog laidL w) false (World.doorLaid Tryd.prog 400 os) #[.slice none 0 0, .string ByteArray.empty] 8 rfl (World.shaped_of_RefB (by kernel_rfl) (by kernel_rfl)) (by kernel_rfl) (by kernel_rfl) (by kernel_rfl) (door_met os _)) ?_
  intro W base args ds gs before hval0 hW _ _ hL _
  have hval : ∀ (j : Nat) t v, Tryd.f7.params[j]? = some t → args[j]? = some v → Value.okWide Tryd.prog W .any base t v := hval0
  have hW' := hW
  obtain ⟨p, q, hA0, hV, rfl, hfz, hnd⟩ := hW
  have hA : DataW.TrodAll enc Tryd.prog W 0 (fun _ => true) true Tryd.f7.params.toList args.toList ds p := hA0
  rw [Tryd.params7] at hA hval
  obtain ⟨v0, vs0, d0, ds0, p0, q0, hargs, rfl, rfl, h0, r0⟩ := trodAll_cons hA
  obtain ⟨v1, vs1, d1, ds1, p1, q1, rfl, rfl, rfl, h1, r1⟩ := trodAll_cons r0
  obtain ⟨rfl, rfl, rfl⟩ := trodAll_nil r1
  obtain rfl : args = #[v0, v1] := by cases args; simp_all
  obtain ⟨rfl, rfl⟩ := trodVars_none hV
  obtain ⟨p0, L0, c0, rfl, hL0⟩ := open_sps (hval 0 22 v0 rfl rfl) h0
  obtain ⟨a1, rfl, rfl, rfl, w1⟩ := Go.ChangeMaps.open_string Tryd.underlying9 (hval 1 9 v1 rfl rfl) h1
  clear hA0 hval0
  obtain ⟨hTab, hpos⟩ := tab_of hL
  refine (walk p0 L0 c0 a1 W hTab hpos hL0 w1).mono fun e W' ⟨he, hg⟩ => ?_
  subst he
  exact ⟨_, rfl, post_bel readable hW' rfl (fun _ _ _ => (trodAll_cons_mk (shut_bool Tryd.underlying4 _) trodAll_mk0)) rfl (fun _ => rfl)
    hg (ok_one (by kernel_rfl) rfl (okWide_bool_mk Tryd.underlying4 _))⟩

theorem over : Rows.HeapApartSaid :=
  OpenClaim.holds_of_wide 7 Tryd.f7 rfl rfl rfl rfl rfl rfl rfl ⟨rfl, rfl, rfl, rfl, rfl⟩ rfl rfl rfl rfl rfl (by kernel_rfl) Tryd.func7 (by kernel_rfl)
    (of_decide_eq_true (by kernel_rfl)) (by unfold Func.isWrapper; first | (rw [if_pos (by decide +kernel)]; kernel_rfl) | (rw [if_neg (by decide +kernel)]; exact ⟨rfl, rfl⟩))
    (fun os started H enc _ => lifted os started H enc)
end Go.Proofs.YtooblonafnlfcaaDoor.heapApart
namespace Go.Proofs.YtooblonafnlfcaaDoor
theorem heapApart_holds : Rows.HeapApartCardSaid :=
  Claim7.holds_tied_plain_at .later [] [.data] true (true, "b767f1769450228dc74670ef9fc0548c4ed2a596c62c776f9a54ab77b3249b2a") false
    heapApart.over (fun _ h => by cases h) (by kernel_rfl) (fun _ h => by cases h) heapApart_row_tie rfl ⟨rfl, rfl⟩ (by kernel_rfl) rfl
    (fun f fn hf hfn => by
      obtain rfl : f = 7 := Option.some.inj ((show Tryd.prog.funcNamed "warden/wardenlaw14.HeapApart" = some 7 by kernel_rfl).symm.trans hf) |>.symm
      obtain rfl : fn = Tryd.f7 := (Option.some.inj (Tryd.func7.symm.trans hfn)).symm
      exact ⟨by kernel_rfl, fun j t ht => by
        rw [Tryd.params7] at ht
        have hm : t ∈ [22, 9] := by simpa using Array.mem_of_getElem? ht
        have hall : ([22, 9].all fun u => !Tryd.prog.wantsStandIn u) = true := by kernel_rfl
        exact (show Tryd.prog.wantsStandIn t = false by simpa using List.all_eq_true.1 hall t hm)⟩)
    (by kernel_rfl)
#print axioms heapApart_holds
end Go.Proofs.YtooblonafnlfcaaDoor
