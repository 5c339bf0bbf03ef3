/- Towards the statements of package tree (layer 16): all. -/
import Derived.Test.YthgpbbpmfpfjnaaTN
import Derived.Laws.MakeOwn
import Derived.Test.YthgpbbpmfpfjnaaRF
namespace Go.Proofs.Ythgpbbpmfpfjnaa.T
open Go.ChangeShapes Go.WideShapes Go.ChangeAt Go.RowKit
set_option linter.unusedVariables false
set_option linter.unusedSimpArgs false
set_option maxRecDepth 100000
attribute [local go_sem] Oper.semAt_some
theorem all_niln (l : Nat) (W : World) : Calls Try.prog 100 #[.pointer none, .func (.yield l) #[] #[]] W fun e W' => (∃ v, e = .returned v) ∧ W' = W.alloc (.cells #[.func (.yield l) #[] #[]] 154) := by
  have q1 := eqp_no
  go_enter Try.func100, Try.ntmps100
  go_wp2
  all_goals go_returns
  all_goals exact ⟨⟨_, rfl⟩, rfl⟩
theorem own_cells {b : Nat} {B : Nat} {o : Obj} (hb : b < B) : OwnFrom B (fun (_ : List HKey) W => W.heap[b]? = some o) := by
  rintro s W W' row hs hg hrw
  rw [hg.block b (heap_lt hs) (fun q => by have := (hrw b q.symm).1; omega)]
  exact hs
theorem OwnFrom.mono {β : Type} {I : β → World → Prop} {B B' : Nat} (h : OwnFrom B I) (hB : B ≤ B') : OwnFrom B' I := fun s W W' row hs hg hr => h s W W' row hs hg (fun r e => ⟨Nat.le_trans hB (hr r e).1, (hr r e).2⟩)
theorem OwnFrom.map {β γ : Type} {I : β → World → Prop} {B : Nat} (h : OwnFrom B I) (f : γ → β) : OwnFrom B (fun s W => I (f s) W) := fun s W W' row hs hg hr => h (f s) W W' row hs hg hr
set_option maxHeartbeats 4000000 in
theorem all_in [Inhabited FarT] : ∀ (t : Tr) (o : Option Nat) (B : Nat) (M : MN) (l : Nat) (J : List HKey → World → Prop) (W : World), Sub M o t → (∀ pre W1, J pre W1 → Ms W1 B M) → OwnFrom W.heap.size J →
    (∀ pre x W1, J pre W1 → (pre ++ [x]) <+: t.keys → ∀ m, YieldAt Fence.wide m Try.prog l #[.agg #[.int .i64 x.1, .int .u64 x.2]] W1 (RoundOk W.heap.size J (pre ++ [x]) W1)) → J [] W →
    CallsIn Fence.wide 9 Try.prog 100 #[pO t.root, .func (.yield l) #[] #[]] W fun e W' => (∃ v, e = .returned v) ∧ J t.keys W'
  | .nil, o, B, M, l, J, W, hS, hJM, hO, hY, h0 => by
    refine callsIn_wide.2 ((all_niln l W).mono fun e W' ⟨e1, e2⟩ => ⟨e1, ?_⟩)
    rw [e2]
    exact hO.alloc _ h0
  | .nd a k L R, o, B, M, l, J, W, ⟨hn, hL, hR⟩, hJM, hO, hY, h0 => by
    have hJ0 := hO.alloc (.cells #[.func (.yield l) #[] #[]] 154) h0
    have hz := heap_alloc_new W (.cells #[.func (.yield l) #[] #[]] 154)
    have q1 := eqp_yes a
    have hsz0 : W.heap.size < (W.alloc (.cells #[.func (.yield l) #[] #[]] 154)).heap.size := by simp
    have hkeys := Tr.keys_nd a k L R
    show CallsIn Fence.wide 9 Try.prog 100 #[.pointer (some ⟨a, 0, none⟩), .func (.yield l) #[] #[]] W _
    refine callsIn_of_wp_marks Try.func100 rfl trivial ?_ rfl
    simp only [Try.ntmps100, List.size_toArray, List.length_cons, List.length_nil, Nat.reduceAdd, Nat.reduceSub, Array.replicate_succ, Array.replicate_zero, List.push_toArray, List.append_toArray, List.nil_append, List.cons_append]
    have c3 := (hJM _ _ hJ0).c3 hn
    simp only at c3
    gi_wp2
    generalize W.alloc (.cells #[.func (.yield l) #[] #[]] 154) = W0 at hJ0 hz hsz0 c3 ⊢
    generalize hB0 : W.heap.size = z at *
    have hzl : z < W0.heap.size := by omega
    refine loop_keep (enc := fun x => .agg #[.int .i64 x.1, .int .u64 x.2]) (xs := L.keys) (by omega) (gf := 100) (bs := #[pO L.root]) rfl (fun _ _ => rfl)
      (fun pre W1 => J pre W1 ∧ W1.heap[z]? = some (.cells #[.func (.yield l) #[] #[]] 154 (0, 0)))
      ((OwnFrom.mono hO (by omega)).and (own_cells hzl)) ⟨hJ0, hz⟩ ?hseq
      (fun x a' W1 => ∃ zh : Nat, a' = { tmps := #[.pointer (some ⟨a, 0, none⟩), .func (.yield l) #[] #[], undef, .pointer (some ⟨z, 0, none⟩), .pointer (some ⟨zh, 0, none⟩), undef, .pointer (some ⟨a, 0, none⟩), .bool false, .pointer (some ⟨a, 0, none⟩), .pointer (some ⟨a, 0, none⟩), .pointer (some ⟨a, 3, none⟩), .pointer (some ⟨a, 3, none⟩), pO L.root, .func (.func 100) #[pO L.root] #[], .agg #[.int .i64 x.1, .int .u64 x.2], undef, undef, undef, undef, undef, undef, undef, undef, undef, undef, undef, undef, undef, undef, undef, undef, undef, undef, undef, undef, undef, undef], defers := [] } ∧ W1.heap[zh]? = some (.cells #[.int .i64 x.1, .int .u64 x.2] 31 (0, 0))) ?hAx ?hassign ?hbody ?hdone
    case hseq =>
      intro l2 J2 W2 hb2 hJI hO2 hY2 hJ2
      exact callsIn_wide.2 (callsIn_wide.1 (all_in L (some a) B M l2 J2 W2 hL (fun pre W1 h => hJM _ _ (hJI pre W1 h).1) hO2 hY2 hJ2))
    case hAx =>
      rintro x a' _ W1 W2 row ⟨zh, ha, hz⟩ hg hrw
      refine ⟨zh, ha, ?_⟩
      rw [hg.block zh (heap_lt hz) (fun q => ?_)]
      · exact hz
      · obtain ⟨_, o, ho, hc⟩ := hrw zh q.symm
        rw [hz] at ho; cases ho; cases hc
    case hassign =>
      intro l2 pre x W1 K hi hK
      gi_wp2
      refine hK _ _ ((KeepsOthers.alloc W1 _).from _) (K74.below ((Below.refl _ W1).alloc (Nat.le_refl _) _)) ⟨hO.alloc _ hi.1, heap_al hi.2 _⟩ ⟨W1.heap.size, rfl, heap_alloc_new W1 _⟩
    case hbody =>
      rintro l2 pre x a' W1 ⟨hJ1, hz1⟩ ⟨zh, rfl, hzh⟩ hpx
      have b0 := cell_of hz1 0
      have z0 := cell_of hzh 0
      have z1 := cell_of hzh 1
      simp at b0 z0 z1
      have hpx2 : (pre ++ [x]) <+: (Tr.nd a k L R).keys := by rw [hkeys]; exact hpx.trans (List.prefix_append _ _)
      obtain ⟨fn, tmps, assign, body, hy, hR'⟩ := hY pre x W1 hJ1 hpx2 (9 - 1 - 1 - 1)
      gi_wp2
      refine hR'.mono ?_
      rintro e1 W3 ⟨rfl, hJ3, hk3, h743⟩
      gi_wp2
      exact ⟨⟨hk3.size, fun i o hi ho hc => hk3.same i o (by omega) ho hc⟩, h743, hJ3, h743 _ _ hz1⟩
    case hdone =>
      rintro D1 Wd hD1 ⟨hJd, hzd⟩ hd1
      clear c3 hJ0 hz
      have hJd2 : J L.keys Wd.drew := hO _ _ _ none hJd ⟨rfl, rfl, rfl, Nat.le_refl _, fun _ _ _ => rfl⟩ (fun r e => by cases e)
      have hpk : (L.keys ++ [k]) <+: (Tr.nd a k L R).keys := by rw [hkeys, show L.keys ++ k :: R.keys = (L.keys ++ [k]) ++ R.keys by simp]; exact List.prefix_append _ _
      obtain ⟨fn, tmps, assign, body, hy, hR'⟩ := hY L.keys k Wd.drew hJd2 hpk (9 - 1)
      have b0 := cell_of hzd 0
      have c0 := (hJM _ _ hJd).c0 hn
      have c1 := (hJM _ _ hJd).c1 hn
      simp at b0 c0 c1
      gi_wp2
      have hmix : Try.prog.follows .mixedOrders = true := by kernel_rfl
      refine wpIn_region_inv hmix (fun Z a1 w1 => FrF a1 { tmps := #[.pointer (some ⟨a, 0, none⟩), .func (.yield l) #[] #[], undef, .pointer (some ⟨z, 0, none⟩), undef, undef, .pointer (some ⟨a, 0, none⟩), .bool false, .pointer (some ⟨a, 0, none⟩), .pointer (some ⟨a, 0, none⟩), .pointer (some ⟨a, 3, none⟩), .pointer (some ⟨a, 3, none⟩), pO L.root, .func (.func 100) #[pO L.root] #[], undef, undef, undef, undef, undef, selF (Z 0) (.func (.yield l) #[] #[]) undef, selF (Z 1) (.pointer (some ⟨a, 0, none⟩)) undef, selF (Z 2) (.pointer (some ⟨a, 0, none⟩)) undef, selF (Z 3) (.pointer (some ⟨a, 0, none⟩)) undef, selF (Z 4) (.agg #[.int .i64 k.1, .int .u64 k.2]) undef, selF (Z 5) (.bool true) undef, selF (Z 6) (.bool false) undef, undef, undef, undef, undef, undef, undef, undef, undef, undef, undef, undef], defers := [{ target := .collected D1, args := #[] }] } ((Z 5 = false → w1 = Wd.drew) ∧ (Z 5 = true → RoundOk z J (L.keys ++ [k]) Wd.drew (.returned (.bool true)) w1))) (by kernel_rfl) ⟨rfl, fun _ => rfl, fun h => by cases h⟩ ?step ?fin
      case step =>
        refine allOpsF_cons 0 ?_ ?_
        · rintro Z _ w1 hZ hd hcl ⟨rfl, hW1, hW2⟩
          have n5 : Z 5 = false := by
            cases e5 : Z 5 with
            | false => rfl
            | true =>
              obtain ⟨g0, -⟩ := hcl 5 _ rfl e5
              have e0 : Z 0 = true := g0 rfl
              rw [hZ] at e0; cases e0
          obtain rfl := hW1 n5
          go_simp
          exact ⟨by simp [updZ, Act.put, hZ, selF_true, n5], fun h => by simp [updZ, n5] at h⟩
        refine allOpsF_cons 1 ?_ ?_
        · rintro Z _ w1 hZ hd hcl ⟨rfl, hW1, hW2⟩
          have n5 : Z 5 = false := by
            cases e5 : Z 5 with
            | false => rfl
            | true =>
              obtain ⟨_, g4, -⟩ := hcl 5 _ rfl e5
              have e4 : Z 4 = true := g4 rfl
              obtain ⟨g3, -⟩ := hcl 4 _ rfl e4
              have e3 : Z 3 = true := g3 rfl
              obtain ⟨g2, -⟩ := hcl 3 _ rfl e3
              have e2 : Z 2 = true := g2 rfl
              obtain ⟨g1, -⟩ := hcl 2 _ rfl e2
              have e1 : Z 1 = true := g1 rfl
              rw [hZ] at e1; cases e1
          obtain rfl := hW1 n5
          go_simp
          exact ⟨by simp [updZ, Act.put, hZ, selF_true, n5], fun h => by simp [updZ, n5] at h⟩
        refine allOpsF_cons 2 ?_ ?_
        · rintro Z _ w1 hZ hd hcl ⟨rfl, hW1, hW2⟩
          obtain ⟨d0, -⟩ := hd
          have f1 : Z 1 = true := d0 rfl
          simp only [f1, selF_true]
          have n5 : Z 5 = false := by
            cases e5 : Z 5 with
            | false => rfl
            | true =>
              obtain ⟨_, g4, -⟩ := hcl 5 _ rfl e5
              have e4 : Z 4 = true := g4 rfl
              obtain ⟨g3, -⟩ := hcl 4 _ rfl e4
              have e3 : Z 3 = true := g3 rfl
              obtain ⟨g2, -⟩ := hcl 3 _ rfl e3
              have e2 : Z 2 = true := g2 rfl
              rw [hZ] at e2; cases e2
          obtain rfl := hW1 n5
          go_simp
          exact ⟨by simp [updZ, Act.put, hZ, selF_true, n5, f1], fun h => by simp [updZ, n5] at h⟩
        refine allOpsF_cons 3 ?_ ?_
        · rintro Z _ w1 hZ hd hcl ⟨rfl, hW1, hW2⟩
          obtain ⟨d0, -⟩ := hd
          have f2 : Z 2 = true := d0 rfl
          simp only [f2, selF_true]
          have n5 : Z 5 = false := by
            cases e5 : Z 5 with
            | false => rfl
            | true =>
              obtain ⟨_, g4, -⟩ := hcl 5 _ rfl e5
              have e4 : Z 4 = true := g4 rfl
              obtain ⟨g3, -⟩ := hcl 4 _ rfl e4
              have e3 : Z 3 = true := g3 rfl
              rw [hZ] at e3; cases e3
          obtain rfl := hW1 n5
          go_simp
          exact ⟨by simp [updZ, Act.put, hZ, selF_true, n5, f2], fun h => by simp [updZ, n5] at h⟩
        refine allOpsF_cons 4 ?_ ?_
        · rintro Z _ w1 hZ hd hcl ⟨rfl, hW1, hW2⟩
          obtain ⟨d0, -⟩ := hd
          have f3 : Z 3 = true := d0 rfl
          simp only [f3, selF_true]
          have n5 : Z 5 = false := by
            cases e5 : Z 5 with
            | false => rfl
            | true =>
              obtain ⟨_, g4, -⟩ := hcl 5 _ rfl e5
              have e4 : Z 4 = true := g4 rfl
              rw [hZ] at e4; cases e4
          obtain rfl := hW1 n5
          go_simp
          exact ⟨by simp [updZ, Act.put, hZ, selF_true, n5, f3], fun h => by simp [updZ, n5] at h⟩
        refine allOpsF_cons 5 ?_ ?_
        · rintro Z _ w1 hZ hd hcl ⟨rfl, hW1, hW2⟩
          obtain ⟨d0, d1, -⟩ := hd
          have f0 : Z 0 = true := d0 rfl
          have f4 : Z 4 = true := d1 rfl
          simp only [f0, f4, selF_true]
          obtain rfl := hW1 hZ
          go_simp
          refine hR'.mono ?_
          rintro e1 W3 ⟨rfl, hok⟩
          exact ⟨by simp [updZ, Act.put, hZ, selF_true, f0, f4], ⟨fun h => by simp [updZ] at h, fun _ => ⟨rfl, hok⟩⟩⟩
        refine allOpsF_cons 6 ?_ ?_
        · rintro Z _ w1 hZ hd hcl ⟨rfl, hW1, hW2⟩
          obtain ⟨d0, -⟩ := hd
          have f5 : Z 5 = true := d0 rfl
          simp only [f5, selF_true]
          have hok := hW2 f5
          go_simp
          exact ⟨by simp [updZ, Act.put, hZ, selF_true, f5], fun h => by simp [updZ, f5] at h⟩
        exact allOpsF_nil 7
      case fin =>
        rintro Z _ W3 hZ ⟨rfl, -, hW2⟩
        obtain ⟨-, hJ3, hk3, h743⟩ := hW2 (hZ 5 (by decide))
        simp only [hZ 0 (by decide), hZ 1 (by decide), hZ 2 (by decide), hZ 3 (by decide), hZ 4 (by decide), hZ 5 (by decide), hZ 6 (by decide), selF_true]
        have hz3 := h743 _ _ (show Wd.drew.heap[z]? = _ from hzd)
        have hd3 := hk3.same D1 _ (by omega) (show Wd.drew.heap[D1]? = _ from hd1) rfl
        have hD3 : D1 < W3.heap.size := heap_lt hd3
        have hzl3 : z < W3.heap.size := heap_lt hz3
        have c4 := (hJM _ _ hJ3).c4 hn
        simp only at c4
        clear hW2 b0 c0 c1 hy hR'
        gi_wp2
        refine loop_keep (enc := fun x => .agg #[.int .i64 x.1, .int .u64 x.2]) (xs := R.keys) (by omega) (gf := 100) (bs := #[pO R.root]) rfl (fun _ _ => rfl)
          (fun pre W1 => J (L.keys ++ [k] ++ pre) W1 ∧ W1.heap[z]? = some (.cells #[.func (.yield l) #[] #[]] 154 (0, 0)) ∧ W1.heap[D1]? = some (.deferred (some [])))
          ((OwnFrom.map (OwnFrom.mono hO (by omega)) (fun pre => L.keys ++ [k] ++ pre)).and ((own_cells hzl3).and (own_cells hD3))) ⟨by rw [List.append_nil]; exact hJ3, hz3, hd3⟩ ?hseq2
          (fun x a' W1 => ∃ zh : Nat, a' = { tmps := #[.pointer (some ⟨a, 0, none⟩), .func (.yield l) #[] #[], undef, .pointer (some ⟨z, 0, none⟩), undef, .pointer (some ⟨zh, 0, none⟩), .pointer (some ⟨a, 0, none⟩), .bool false, .pointer (some ⟨a, 0, none⟩), .pointer (some ⟨a, 0, none⟩), .pointer (some ⟨a, 3, none⟩), .pointer (some ⟨a, 3, none⟩), pO L.root, .func (.func 100) #[pO L.root] #[], undef, undef, undef, undef, undef, .func (.yield l) #[] #[], .pointer (some ⟨a, 0, none⟩), .pointer (some ⟨a, 0, none⟩), .pointer (some ⟨a, 0, none⟩), .agg #[.int .i64 k.1, .int .u64 k.2], .bool true, .bool false, .pointer (some ⟨a, 0, none⟩), .pointer (some ⟨a, 0, none⟩), .pointer (some ⟨a, 3, none⟩), .pointer (some ⟨a, 4, none⟩), pO R.root, .func (.func 100) #[pO R.root] #[], .agg #[.int .i64 x.1, .int .u64 x.2], undef, undef, undef, undef], defers := [] } ∧ W1.heap[zh]? = some (.cells #[.int .i64 x.1, .int .u64 x.2] 31 (0, 0))) ?hAx2 ?hassign2 ?hbody2 ?hdone2
        case hseq2 =>
          intro l2 J2 W2 hb2 hJI hO2 hY2 hJ2
          exact callsIn_wide.2 (callsIn_wide.1 (all_in R (some a) B M l2 J2 W2 hR (fun pre W1 h => hJM _ _ (hJI pre W1 h).1) hO2 hY2 hJ2))
        case hAx2 =>
          rintro x a' _ W1 W2 row ⟨zh, ha, hz⟩ hg hrw
          refine ⟨zh, ha, ?_⟩
          rw [hg.block zh (heap_lt hz) (fun q => ?_)]
          · exact hz
          · obtain ⟨_, o, ho, hc⟩ := hrw zh q.symm
            rw [hz] at ho; cases ho; cases hc
        case hassign2 =>
          intro l2 pre x W1 K hi hK
          gi_wp2
          refine hK _ _ ((KeepsOthers.alloc W1 _).from _) (K74.below ((Below.refl _ W1).alloc (Nat.le_refl _) _)) ⟨hO.alloc _ hi.1, heap_al hi.2.1 _, heap_al hi.2.2 _⟩ ⟨W1.heap.size, rfl, heap_alloc_new W1 _⟩
        case hbody2 =>
          rintro l2 pre x a' W1 ⟨hJ1, hz1, hd1'⟩ ⟨zh, rfl, hzh⟩ hpx
          have b0 := cell_of hz1 0
          have z0 := cell_of hzh 0
          have z1 := cell_of hzh 1
          simp at b0 z0 z1
          have hpx2 : (L.keys ++ [k] ++ pre ++ [x]) <+: (Tr.nd a k L R).keys := by
            rw [hkeys, show L.keys ++ k :: R.keys = (L.keys ++ [k]) ++ R.keys by simp, List.append_assoc]
            exact (List.prefix_append_right_inj _).2 hpx
          obtain ⟨fn, tmps, assign, body, hy, hR'⟩ := hY _ x W1 hJ1 hpx2 (9 - 1 - 1 - 1)
          gi_wp2
          refine hR'.mono ?_
          rintro e1 W4 ⟨rfl, hJ4, hk4, h744⟩
          gi_wp2
          exact ⟨⟨hk4.size, fun i o hi ho hc => hk4.same i o (by have := hk3.size; have : Wd.drew.heap.size = Wd.heap.size := rfl; have := heap_lt hd1; omega) ho hc⟩, h744, by rw [← List.append_assoc]; exact hJ4, h744 _ _ hz1, hk4.same D1 _ (by omega) hd1' rfl⟩
        case hdone2 =>
          rintro D2 We hD2 ⟨hJe, hze, hde⟩ hd2
          gi_wp2
          have hD12 : D1 ≠ D2 := by omega
          have hde2 : (We.putObj D2 (.deferred none)).heap[D1]? = some (.deferred (some [])) := (World.putObj_heap_other hD12).trans hde
          have hfin : J (Tr.nd a k L R).keys ((We.putObj D2 (.deferred none)).putObj D1 (.deferred none)) := by
            rw [hkeys, show L.keys ++ k :: R.keys = L.keys ++ [k] ++ R.keys by simp]
            exact hO.putObj _ (hO.putObj _ hJe (by omega) hd2 rfl) (by omega) hde2 rfl
          refine ⟨by simp, .inl ⟨D2, _, rfl, run_takeDeferred hd2, ⟨by simp, .inl ⟨D1, _, rfl, run_takeDeferred hde2, ?_⟩⟩⟩⟩
          refine ⟨_, results_none rfl _ _ _, ?_⟩
        
          exact ⟨⟨_, rfl⟩, hfin⟩
end Go.Proofs.Ythgpbbpmfpfjnaa.T
