/- Towards the statements of package list (layer 15): All. -/
import Derived.Test.YthgpbbpmfpfjnaaLH
import Derived.Laws.MakeOwn
namespace Go.Proofs.Ythgpbbpmfpfjnaa
open Go.ChangeShapes Go.WideShapes Go.ChangeAt Go.RowKit
set_option linter.unusedVariables false
set_option linter.unusedSimpArgs false
set_option maxRecDepth 20000
attribute [local go_sem] Oper.semAt_some
theorem all_nil (w : World) : Calls Try.prog 77 #[.pointer none] w fun e w' => e = .returned (.slice none 0 0) ∧ w' = w := by
  have k1 := fun W => made_nil W
  go_enter Try.func77, Try.ntmps77
  go_wp2_with (go_at_call 81; refine (k1 _).mono ?_; rintro e w' ⟨rfl, hw⟩; rw [hw]; clear hw)
  all_goals go_returns
  all_goals exact ⟨rfl, rfl⟩
set_option maxRecDepth 100000 in
set_option maxHeartbeats 2000000 in
theorem all_any (w : World) (B b m e : Nat) (nx pv : Nat → Nat) (ky : Nat → HKey) (N : List Nat) (hL : Ls w B b m e nx pv ky N) (hlen : N.length ≤ 100000) :
    Calls Try.prog 77 #[.pointer (some ⟨b, 0, none⟩)] w fun e' w' => ∃ v, e' = .returned v ∧ w'.ownsRow w.heap.size 31 2 v N.length (hCells (N.map ky)) ∧ Below w.heap.size w w' := by
  refine (callsIn_wide (n := 9)).1 ?_
  obtain ⟨c0, c1⟩ := hL.cB
  obtain ⟨es, c, h1, h2⟩ := hL.count
  have k1 := made_yes w b m c0
  obtain ⟨i32, hi32, hz0, hz1, hz2⟩ := info_parts info34
  have q1 : (Builtin.len_ #[100] 3 #[.map (some m)]).run Try.prog w = .ok (.int .i64 (N.length : Int)) w := by rw [run_len_map w 100 3 m es c (by kernel_rfl) h1, h2]; rfl
  obtain ⟨w1, q2, hrow, hgr⟩ := run_make_own (P := Try.prog) w w.heap.size 40 31 i32 _ 2 Try.underlying40 hi32 hz0 hz1 .i64 .i64 N.length (by rw [hz2]; omega) (by unfold maxLen; omega) (Nat.le_refl _)
  have hb1 : Below w.heap.size w w1 := (Below.refl _ w).grown hgr (Nat.le_refl _) (fun k q => by cases q)
  have hL1 := hL.bel hb1
  have d2 := cell_al hL1.cB.2 (.cells #[.slice (some ⟨w.heap.size, 0, none⟩) 0 N.length] 40)
  refine callsIn_of_wp_marks Try.func77 rfl trivial ?_ rfl
  simp only [Try.ntmps77, List.size_toArray, List.length_cons, List.length_nil, Nat.reduceAdd, Nat.reduceSub, Array.replicate_succ, Array.replicate_zero, List.push_toArray, List.append_toArray, List.nil_append, List.cons_append]
  gi_wp2_with (refine ⟨trivial, ?_⟩; gi_at_call 81; refine (callsIn_wide.2 k1).mono ?_; rintro e w' ⟨rfl, hw⟩; rw [hw]; clear hw)
  have bO := Boxed.new w1 40 (.slice (some ⟨w.heap.size, 0, none⟩) 0 N.length)
  have hB0 : Below w.heap.size w (w1.alloc (.cells #[.slice (some ⟨w.heap.size, 0, none⟩) 0 N.length] 40)) := hb1.alloc hb1.size _
  have hrow0 := hrow.alloc (.cells #[.slice (some ⟨w.heap.size, 0, none⟩) 0 N.length] 40)
  have hzB : w.heap.size ≤ w1.heap.size := hb1.size
  have hsz : w.heap.size ≤ (w1.alloc (.cells #[.slice (some ⟨w.heap.size, 0, none⟩) 0 N.length] 40)).heap.size := hB0.size
  clear d2 q1 q2 hrow hb1 hL1 hgr k1 c0 c1
  generalize w1.alloc (.cells #[.slice (some ⟨w.heap.size, 0, none⟩) 0 N.length] 40) = W0 at bO hB0 hrow0 hsz ⊢
  generalize w1.heap.size = tB at bO hzB ⊢
  refine loop_bound (enc := fun k : HKey => .agg #[.int .i64 k.1, .int .u64 k.2]) (xs := N.map ky) (by omega) (gf := 82) (bs := #[.pointer (some ⟨e, 0, none⟩)]) rfl (fun _ _ => rfl)
    (fun pre W => (∃ v, Boxed W tB 40 v ∧ W.ownsRow w.heap.size 31 2 v pre.length (hCells pre) ∧ True) ∧ Below w.heap.size w W)
    (OwnFrom.and (Own.from (holdsRow_own w.heap.size tB 40 31 2 (fun pre : List HKey => pre.length) (fun pre => hCells pre) (fun pre v => True)) _) (ownFrom_below (Nat.le_refl _) hsz))
    ⟨⟨_, bO, hrow0, trivial⟩, hB0⟩ ?hseq
    (fun k a' W => ∃ z : Nat, a' = { tmps := #[.pointer (some ⟨b, 0, none⟩), undef, .slice none 0 0, .pointer (some ⟨tB, 0, none⟩), .pointer (some ⟨z, 0, none⟩), .pointer (some ⟨b, 0, none⟩), .bool true, .bool false, .pointer (some ⟨b, 0, none⟩), .pointer (some ⟨b, 0, none⟩), .pointer (some ⟨b, 0, none⟩), .map (some m), .int .i64 N.length, .slice (some ⟨w.heap.size, 0, none⟩) 0 N.length, .pointer (some ⟨b, 0, none⟩), .pointer (some ⟨b, 0, none⟩), .pointer (some ⟨b, 1, none⟩), .pointer (some ⟨e, 0, none⟩), .func (.func 82) #[.pointer (some ⟨e, 0, none⟩)] #[], .agg #[.int .i64 k.1, .int .u64 k.2], undef, undef, undef, undef, undef], defers := [] } ∧ W.heap[z]? = some (.cells #[.int .i64 k.1, .int .u64 k.2] 31 (0, 0))) ?hAx ?hassign ?hbody ?hdone
  case hseq =>
    intro l J W hJI hY hJ0
    exact others_in (9 - 1) (by omega) l e nx pv ky N hL.ring hL.nd J W (fun pre W1 hj x hx => (hL.lk x hx).keep ((hJI pre W1 hj).2.block x (hL.lk x hx).lt)) hY hJ0
  case hAx =>
    rintro k a' _ W W' row ⟨z, ha, hz⟩ hg hrw
    refine ⟨z, ha, ?_⟩
    rw [hg.block z (heap_lt hz) (fun q => ?_)]
    · exact hz
    · obtain ⟨_, o, ho, hc⟩ := hrw z q.symm
      rw [hz] at ho; cases ho; cases hc
  case hassign =>
    intro l pre k W K hi hK
    gi_wp2
    refine hK _ _ ((KeepsOthers.alloc W _).from _) ?_ ⟨W.heap.size, rfl, heap_alloc_new W _⟩
    obtain ⟨⟨v, hv, hr, _⟩, hB⟩ := hi
    exact ⟨⟨v, hv.alloc _, hr.alloc _, trivial⟩, hB.alloc hB.size _⟩
  case hbody =>
    rintro l pre k a' W ⟨⟨v, hv, hr, _⟩, hB⟩ ⟨z, rfl, hz⟩ hpx
    have hc := hv.cell
    have z0 := cell_of hz 0
    have z1 := cell_of hz 1
    simp at z0 z1
    have hpl : pre.length < N.length := by have := hpx.length_le; simp at this; omega
    gi_wp2_with (gi_at_builtin; refine wpListIn_append_own _ rfl _ _ 40 rfl w.heap.size 31 i32 (.agg #[.int .i64 0, .int .u64 0]) 2 16 Try.underlying40 hi32 hz0 hz1 hz2 rfl (by decide) _ _ _ rfl (hr.alloc _) ⟨W.heap.size, 0, none⟩ 1 1 [.int .i64 k.1, .int .u64 k.2] rfl rfl (news_new _ _ _ _ rfl) (by simp [Value.oneCell']) (by simp [maxLen]; omega) (by omega) (by have := hB.size; simp; omega) ?_; intro v' w1 hown' hgrow _; obtain ⟨g', cap', rfl⟩ := ownsRow_succ hown'; obtain ⟨hv1, hv2, hr2, hk2, hb2⟩ := hv.appended (by decide) hr hB.size hzB hown' hgrow; have hc1 := hv1.cell; have hf1 := hv1.frozen)
    refine ⟨hk2.from _, trivial, ⟨_, hv2, ?_, trivial⟩, hB.trans hb2⟩
    rw [List.length_append, hCells_app]
    exact hr2
  case hdone =>
    rintro D W hD ⟨⟨v, hv, hr, _⟩, hB⟩ hK
    have hc := hv.cell
    gi_wp2
    refine ⟨by simp, .inl ⟨_, _, rfl, run_takeDeferred hK, ?_⟩⟩
    refine ⟨_, results_tmp rfl _ _ _, v, rfl, ?_, ?_⟩
    · rw [List.length_map] at hr
      exact ownsRow_putObj hr _ hK rfl
    · exact hB.grown (grownBy_putObj' W D _) hB.size (fun k q => by cases q; exact Nat.le_trans hsz hD)
end Go.Proofs.Ythgpbbpmfpfjnaa
