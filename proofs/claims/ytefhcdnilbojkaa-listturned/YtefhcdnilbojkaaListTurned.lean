/- ListTurned, the theorem of stage 15: what is pushed at one end and popped at the other comes in the order in which it was pushed, and at the same end the other way about, and the links lead through all, for any handles and any two ends: the statement as given. No condition. -/
import Derived.Test.YtefhcdnilbojkaaLT
import Derived.WalkKit
import Derived.ProofKit
import Derived.OpenShut
import Derived.ShutString
namespace Go.Proofs.Ytefhcdnilbojkaa.listTurned
open Go.ChangeShapes Go.WideShapes Go.ChangeAt Go.RowKit
open Go.ChangeMaps (open_string shut_string)
set_option linter.unusedVariables false
set_option linter.unusedSimpArgs false

theorem own : ownKnob Try.prog.godebug = none := by kernel_rfl

set_option maxRecDepth 100000 in
set_option maxHeartbeats 16000000 in
theorem walk (p0 : Option Addr) (L0 : List HKey) (c0 : Nat) (a1 : Bool) (a2 : Bool) (w : World) (hL0 : Hds w p0 L0)   :
    Calls Try.prog 4 #[.slice p0 L0.length c0, .bool a1, .bool a2] w fun e w' => e = .returned (.bool true) ∧ Below w.heap.size w w' := by
  have kw := fun W => works_any W
  by_cases hlong : 300 < L0.length
  · have d : decide ((300 : Int) < (L0.length : Int)) = true := by simp; omega
    go_enter Try.func4, Try.ntmps4
    go_wp2_with (go_at_call 8; refine (kw _).mono ?_; rintro e w3 ⟨rfl, hb⟩)
    all_goals go_returns
    exact ⟨rfl, hb⟩
  have d1 : decide ((300 : Int) < (L0.length : Int)) = false := by simp; omega
  have k1 := new_li w
  have hrow0 := fun W : World => World.ownsRow_nil W w.heap.size 32 2
  go_enter Try.func4, Try.ntmps4
  go_upto_region 4 with (go_at_call 9; refine k1.mono ?_; rintro e w1 ⟨b, S, rfl, h1, hb1⟩)
  clear k1
  generalize hB0 : w.heap.size = B at h1 hb1 hrow0 ⊢
  replace hB0 : Hid _ := hB0
  replace hL0 : Hid _ := hL0
  obtain ⟨i32, hi32, hz0, hz1, hz2⟩ := info_parts info34
  go_wp2
  go_loopw [8, 9] (fun n8 n9 wr => ∃ (i : Nat) (A : List HKey) (S : List Nat) (p : Option Addr) (c : Nat), n9 = .int .i64 i ∧ n8 = .slice p A.length c ∧ i ≤ L0.length ∧ A.length ≤ i ∧ Li wr B b (arrM a1 A) S ∧ wr.ownsRow B 32 2 (.slice p A.length c) A.length (hCells A) ∧ Below B w wr) (fun _ n9 _ => L0.length - (valOf n9).toNat)
  case atStart => exact ⟨0, [], S, none, 0, rfl, rfl, by omega, by simp, by cases a1 <;> exact h1, hrow0 _, hb1⟩
  case round =>
    clear h1 hb1
    obtain ⟨i, A, S, p, c, rfl, rfl, hi, hAi, hLi, hrow, hbl⟩ := hrel
    by_cases hin : i < L0.length
    · have d : decide ((i : Int) < L0.length) = true := by simp; omega
      have e9 : IntKind.i64.wrap ((i : Int) + 1) = (i : Int) + 1 := IntWalk.i64_in _ (by omega)
      obtain ⟨xb, xo, ⟨xs, xg⟩, hxi, ⟨x0, x1⟩, hxb, hai⟩ := idxH hL0.out hin
      simp only at x0 x1
      have hB1 := hB0.out
      have hbs := hbl.size
      have r0 := (hbl.cell (p := ⟨xb, xo, none⟩) (by simp; omega)).trans x0
      have r1 := (hbl.cell (p := ⟨xb, xo + 1, none⟩) (by simp; omega)).trans x1
      have hai' := hai c0
      have k2 := has_li wr B b _ S hLi (xs, xg)
      simp only [arr_mem] at k2
      have hxb' : xb < wr.heap.size := by omega
      clear hai x0 x1
      by_cases hm : ((xs, xg) : HKey) ∈ A
      · rw [decide_eq_true hm] at k2
        go_upto_region 9 with (go_at_call 14; refine k2.mono ?_; rintro e w3 ⟨rfl, hb3⟩)
        have s0 := (hb3.cell (p := ⟨xb, xo, none⟩) hxb').trans r0
        have s1 := (hb3.cell (p := ⟨xb, xo + 1, none⟩) hxb').trans r1
        have k3 := push_li w3 B b _ S (hLi.bel hb3) (xs, xg) a1
        rw [if_pos (by rw [arr_mem]; exact hm), show pushM (arrM a1 A) (xs, xg) a1 = arrM a1 A by rw [pushM, if_pos (by rw [arr_mem]; exact hm)]] at k3
        clear r0 r1 k2
        go_wp2_with (go_at_call 19; go_loud (refine k3.mono ?_; rintro e w4 ⟨rfl, S4, h4, hF4⟩))
        have hr3 := row_kept hrow fun g hg => (hb3.block g (hrow.lt g hg).2)
        have hr4 := row_kept hr3 fun g hg => hF4.keep g (hr3.lt g hg).2 (by obtain ⟨cu, hcu⟩ := row_cells hr3 hg; exact (hLi.bel hb3).notrow hcu (by decide) (by decide))
        exact ⟨⟨i + 1, A, S4, p, c, by simp, rfl, by omega, by omega, h4, hr4, (hbl.trans (hb3.mono hLi.size)).trans hF4.bel⟩, by simp [valOf]; omega⟩
      · rw [decide_eq_false hm] at k2
        go_upto_region 9 with (go_at_call 14; refine k2.mono ?_; rintro e w3 ⟨rfl, hb3⟩)
        have s0 := (hb3.cell (p := ⟨xb, xo, none⟩) hxb').trans r0
        have s1 := (hb3.cell (p := ⟨xb, xo + 1, none⟩) hxb').trans r1
        have k3 := push_li w3 B b _ S (hLi.bel hb3) (xs, xg) a1
        rw [if_neg (by rw [arr_mem]; exact hm), arr_push a1 A (xs, xg) hm] at k3
        have hxS : xb ∉ S := fun q => by have := (hLi.lt xb q).1; omega
        clear r0 r1 k2
        go_upto_region 13 with (go_at_call 19; go_loud (refine k3.mono ?_; rintro e w4 ⟨rfl, S4, h4, hF4⟩))
        have hr3 := row_kept hrow fun g hg => (hb3.block g (hrow.lt g hg).2)
        have hr4 := row_kept hr3 fun g hg => hF4.keep g (hr3.lt g hg).2 (by obtain ⟨cu, hcu⟩ := row_cells hr3 hg; exact (hLi.bel hb3).notrow hcu (by decide) (by decide))
        have hxb3 : xb < w3.heap.size := by have := hb3.size; omega
        have t0 := (World.cell?_of_block (a := ⟨xb, xo, none⟩) (hF4.keep xb hxb3 hxS)).trans s0
        have t1 := (World.cell?_of_block (a := ⟨xb, xo + 1, none⟩) (hF4.keep xb hxb3 hxS)).trans s1
        have hb4 : Below B w w4 := (hbl.trans (hb3.mono hLi.size)).trans hF4.bel
        clear s0 s1 k3 hF4 hr3 hrow hbl
        go_wp2_with (at_builtin; refine wpList_append_own_at _ rfl _ _ 27 rfl B 32 i32 (.agg #[.int .i64 0, .int .u64 0]) 2 16 Try.underlying27 hi32 hz0 hz1 hz2 rfl (by decide) (.slice p A.length c) A.length (hCells A) rfl (hr4.alloc _) _ 1 1 [.int .i64 xs, .int .u64 xg] rfl rfl (news_new _ _ _ _ rfl) (by simp [Value.oneCell']) (by simp [maxLen]; omega) (by omega) (by have := hb4.size; simp; omega) ?_; go_loud (intro v' w5 hown hgrow hnil2 hloc; obtain ⟨p', c', rfl⟩ : ∃ p cap, v' = .slice p (A.length + 1) cap := own_shape hown))
        have hg5 : ∀ i, i < w4.heap.size → some i ≠ (Value.slice p A.length c).ownBlock → w5.heap[i]? = w4.heap[i]? := fun i hi hn => (hgrow.block i (by simp; omega) hn).trans (Below.heap_alloc _ _ _ hi)
        have h5 : Li w5 B b (arrM a1 (A ++ [(xs, xg)])) S4 := h4.keep fun k hk => hg5 k (h4.lt k hk).2 (fun q => by obtain ⟨cu, hcu⟩ := row_cells hr4 q.symm; exact h4.notrow hcu (by decide) (by decide) hk)
        have hlen : (A ++ [((xs, xg) : HKey)]).length = A.length + 1 := by simp
        refine ⟨⟨i + 1, A ++ [(xs, xg)], S4, p', c', by simp, by rw [hlen], by omega, by omega, h5, ?_, (hb4.alloc h4.size _).grown hgrow (by have := h4.size; simp; omega) (fun k q => (hr4.lt k q).1)⟩, by simp [valOf]; omega⟩
        rw [hlen, hCells_app]
        exact hown
    · have d : decide ((i : Int) < L0.length) = false := by simp; omega
      have hn : A.Nodup := by
        have := hLi.nd
        cases a1 with
        | true => exact (List.reverse_perm A).nodup_iff.1 this
        | false => exact this
      have hll := arr_len a1 A
      have k4 := through_any wr B b _ S hLi (by omega)
      rw [hll] at k4
      have k5 := fun W hb => len_li W B b _ S (hLi.bel (w' := W) hb)
      rw [hll] at k5
      go_upto_region 16 with (first
        | (go_at_call 20; go_loud (refine k4.mono ?_; rintro e w3 ⟨rfl, hb3⟩))
        | (go_at_call 13; refine (k5 _ hb3).mono ?_; rintro e w' ⟨rfl, hw⟩; rw [hw]; clear hw))
      have h3 := hLi.bel hb3
      have hr3 := row_kept hrow fun g hg => (hb3.block g (hrow.lt g hg).2)
      have hb4 : Below B w w3 := hbl.trans (hb3.mono hLi.size)
      have hB1 := hB0.out
      clear k4 k5 hLi hrow hbl hb3
      rw [← rest_zero A a1 a2] at h3
      go_wp2
      go_loopw [12] (fun n12 wr => ∃ (k : Nat) (S : List Nat), n12 = .int .i64 k ∧ k ≤ A.length ∧ Li wr B b (restM A a1 a2 k) S ∧ wr.ownsRow B 32 2 (.slice p A.length c) A.length (hCells A) ∧ Below B w wr) (fun n12 _ => A.length - (valOf n12).toNat)
      case atStart => exact ⟨0, S, rfl, by omega, h3, hr3, hb4⟩
      case round =>
        clear h3 hr3 hb4
        obtain ⟨k, S, rfl, hk, h3, hr3, hb4⟩ := hrel
        by_cases hkl : k < A.length
        · have dk : decide ((k : Int) < A.length) = true := by simp; omega
          have e8 : IntKind.i64.wrap ((k : Int) + 1) = (k : Int) + 1 := IntWalk.i64_in _ (by omega)
          obtain ⟨⟨ks, kg⟩, hw1, hw2, hw3⟩ := pop_rest A hn a1 a2 k hkl
          have k6 := pop_li wr B b _ S h3 a2
          rw [hw2, hw3] at k6
          simp only [oV, Option.isSome_some] at k6
          go_upto_region 20 with (go_at_call 21; go_loud (refine k6.mono ?_; rintro e w5 ⟨rfl, S5, h5, hF5⟩))
          have hr5 := row_kept hr3 fun g hg => hF5.keep g (hr3.lt g hg).2 (by obtain ⟨cu, hcu⟩ := row_cells hr3 hg; exact h3.notrow hcu (by decide) (by decide))
          have yc := heap_alloc_new w5 (.cells #[.int .i64 ks, .int .u64 kg] 32)
          have h6 := h5.alloc (.cells #[.int .i64 ks, .int .u64 kg] 32)
          have hr6 := hr5.alloc (.cells #[.int .i64 ks, .int .u64 kg] 32)
          have hb6 : Below B w (w5.alloc (.cells #[.int .i64 ks, .int .u64 kg] 32)) := (hb4.trans hF5.bel).alloc h5.size _
          clear k6 h5 hr5 hF5 hr3 hb4 h3
          generalize w5.alloc (.cells #[.int .i64 ks, .int .u64 kg] 32) = w6 at yc h6 hr6 hb6 ⊢
          generalize w5.heap.size = zc at yc ⊢
          obtain ⟨g, ⟨us, ug⟩, hu, hgl, hgo, hc0, hc1, hai⟩ := idx34 hr6 hkl (by omega)
          have hai' := hai w6
          simp only at hc0 hc1
          by_cases hqp : a1 = a2
          · have q0 : (a1 == a2) = true := by simpa using hqp
            rw [wantM, if_pos hqp] at hw1
            have hl2 : A.length - 1 - k < A.length := by omega
            obtain ⟨g2, ⟨vs, vg⟩, hv, hgl2, hgo2, hd0, hd1, hai2⟩ := idx34 hr6 hl2 (by omega)
            rw [hv] at hw1
            obtain ⟨rfl, rfl⟩ : vs = ks ∧ vg = kg := by simpa using hw1
            simp only at hd0 hd1
            have e7 : IntKind.i64.wrap ((A.length : Int) - 1) = (A.length : Int) - 1 := IntWalk.i64_in _ (by omega)
            have e6 : IntKind.i64.wrap ((A.length : Int) - 1 - k) = (A.length : Int) - 1 - k := IntWalk.i64_in _ (by omega)
            have ek : (A.length : Int) - 1 - k = ((A.length - 1 - k : Nat) : Int) := by omega
            go_upto_region 21 with fail
            have yd := heap_alloc_new w6 (.cells #[.int .i64 us, .int .u64 ug] 32)
            have yc7 := heap_al yc (.cells #[.int .i64 us, .int .u64 ug] 32)
            have h7 := h6.alloc (.cells #[.int .i64 us, .int .u64 ug] 32)
            have hr7 := hr6.alloc (.cells #[.int .i64 us, .int .u64 ug] 32)
            have hb7 : Below B w (w6.alloc (.cells #[.int .i64 us, .int .u64 ug] 32)) := hb6.alloc h6.size _
            have hd0' := cell_al hd0 (.cells #[.int .i64 us, .int .u64 ug] 32)
            have hd1' := cell_al hd1 (.cells #[.int .i64 us, .int .u64 ug] 32)
            have hzd : B ≤ w6.heap.size := h6.size
            have hyl := heap_lt yc
            have hg2l : g2 < w6.heap.size := hgl2
            have hS6 : ∀ x ∈ S5, x < w6.heap.size := fun x hx => (h6.lt x hx).2
            have hR6 : ∀ g', (Value.slice p A.length c).ownBlock = some g' → g' < w6.heap.size := fun g' hg' => (hr6.lt g' hg').2
            clear h6 hr6 hb6 hd0 hd1 hc0 hc1 hai hai'
            generalize w6.alloc (.cells #[.int .i64 us, .int .u64 ug] 32) = w7 at yd yc7 h7 hr7 hb7 hd0' hd1' ⊢
            generalize w6.heap.size = zd at yd hzd hyl hg2l hS6 hR6 ⊢
            have hai3 := hai2 w7
            rw [← ek] at hai3
            have f0 := froz_of yd 0
            have f1 := froz_of yd 1
            have t0 := cell_of yd 0
            have t1 := cell_of yd 1
            simp at t0 t1
            go_upto_region 23 with fail
            have n1 := heap_setCell_same w7 zd 0 _ _ (.int .i64 vs) yd
            have n2 := heap_setCell_same _ zd 1 _ _ (.int .u64 vg) n1
            have hk8 : ∀ i, i ≠ zd → ((w7.setCell ⟨zd, 0, none⟩ (.int .i64 vs)).setCell ⟨zd, 1, none⟩ (.int .u64 vg)).heap[i]? = w7.heap[i]? := fun i hi => by
              rw [Below.heap_setCell _ _ _ _ (by simpa using hi), Below.heap_setCell _ _ _ _ (by simpa using hi)]
            have h8 := h7.keep (w' := (w7.setCell ⟨zd, 0, none⟩ (.int .i64 vs)).setCell ⟨zd, 1, none⟩ (.int .u64 vg)) fun i hi => hk8 i (fun q => by have := hS6 _ hi; omega)
            have hr8 := row_kept (w' := (w7.setCell ⟨zd, 0, none⟩ (.int .i64 vs)).setCell ⟨zd, 1, none⟩ (.int .u64 vg)) hr7 fun g' hg' => hk8 g' (fun q => by have := hR6 _ hg'; omega)
            have hb8 : Below B w ((w7.setCell ⟨zd, 0, none⟩ (.int .i64 vs)).setCell ⟨zd, 1, none⟩ (.int .u64 vg)) := (hb7.setCell hzd _).setCell hzd _
            have yc8 := (hk8 zc (by omega)).trans yc7
            simp only [List.setIfInBounds_toArray, List.set_cons_zero, List.set_cons_succ] at n2
            clear f0 f1 t0 t1 n1 hk8 h7 hr7 hb7 yd yc7 hai3 hd0' hd1'
            generalize (w7.setCell ⟨zd, 0, none⟩ (.int .i64 vs)).setCell ⟨zd, 1, none⟩ (.int .u64 vg) = w8 at n2 h8 hr8 hb8 yc8 ⊢
            have t0 := cell_of n2 0
            have t1 := cell_of n2 1
            have y0 := cell_of yc8 0
            have y1 := cell_of yc8 1
            simp at t0 t1 y0 y1
            have nq := fun W => neqH vs vs vg vg W
            simp only [beq_self_eq_true, Bool.and_self, Bool.not_true] at nq
            go_wp2
            exact ⟨⟨k + 1, S5, by simp, by omega, h8, hr8, hb8⟩, by simp [valOf]; omega⟩
          · have q0 : (a1 == a2) = false := by simpa using hqp
            rw [wantM, if_neg hqp, hu] at hw1
            obtain ⟨rfl, rfl⟩ : us = ks ∧ ug = kg := by simpa using hw1
            go_upto_region 21 with fail
            have yd := heap_alloc_new w6 (.cells #[.int .i64 us, .int .u64 ug] 32)
            have yc7 := heap_al yc (.cells #[.int .i64 us, .int .u64 ug] 32)
            have h7 := h6.alloc (.cells #[.int .i64 us, .int .u64 ug] 32)
            have hr7 := hr6.alloc (.cells #[.int .i64 us, .int .u64 ug] 32)
            have hb7 : Below B w (w6.alloc (.cells #[.int .i64 us, .int .u64 ug] 32)) := hb6.alloc h6.size _
            clear h6 hr6 hb6 hc0 hc1 hai hai'
            generalize w6.alloc (.cells #[.int .i64 us, .int .u64 ug] 32) = w7 at yd yc7 h7 hr7 hb7 ⊢
            generalize w6.heap.size = zd at yd ⊢
            have t0 := cell_of yd 0
            have t1 := cell_of yd 1
            have y0 := cell_of yc7 0
            have y1 := cell_of yc7 1
            simp at t0 t1 y0 y1
            have nq := fun W => neqH us us ug ug W
            simp only [beq_self_eq_true, Bool.and_self, Bool.not_true] at nq
            go_wp2
            exact ⟨⟨k + 1, S5, by simp, by omega, h7, hr7, hb7⟩, by simp [valOf]; omega⟩
        · have dk : decide ((k : Int) < A.length) = false := by simp; omega
          obtain rfl : k = A.length := by omega
          rw [rest_end] at h3
          have k7 := len_li wr B b [] S h3
          rw [show (([] : List HKey).length : Int) = 0 from rfl] at k7
          go_wp2_with (first | (go_at_call 13; refine k7.mono ?_; rintro e w' ⟨rfl, hw⟩; rw [hw]; clear hw) | (go_at_call 8; refine (kw _).mono ?_; rintro e w9 ⟨rfl, hb9⟩))
          all_goals go_returns
          have hbe := hb4.trans (hb9.mono h3.size)
          exact ⟨rfl, by rw [hB0.out]; exact hbe⟩

theorem readable : ∀ t ∈ Try.f4.params.toList, Try.prog.readableRec t = true ∧ t < Try.prog.types.size := by
  rw [Try.params4]
  intro t ht
  simp at ht
  rcases ht with rfl | rfl | rfl
  all_goals exact ⟨by kernel_rfl, of_decide_eq_true (by kernel_rfl)⟩
set_option maxRecDepth 100000 in
theorem lifted (os : Os) (started : os.Started) (H : Type) (enc : TypeId × Value → H) :
    ReturnsInHanded {} Try.checked os 4 .any (Rows.listTurnedSpec.pre6 enc Try.prog Try.f4 Rows.listTurnedRow.domain false) (Rows.listTurnedSpec.post enc Try.prog Try.f4 false true false false) := by
  refine returnsInHanded_of_change (C := Try.checked) own started (by kernel_rfl) Try.func4
    (ChangeSpec.witness6 (enc := enc) (C := Try.checked) false ⟨#[], #[.slice none 0 0, .bool false, .bool false], []⟩ 8 (by kernel_rfl) (by kernel_rfl) (by kernel_rfl) (by kernel_rfl)) ?_
  intro W base args ds gs before hval0 hW hcnd _
  have hval : ∀ (j : Nat) t v, Try.f4.params[j]? = some t → args[j]? = some v → Value.okWide Try.prog W .any base t v := hval0
  have hW' := hW
  obtain ⟨p, q, hA0, hV, rfl, hfz, hnd⟩ := hW
  have hA : DataW.TrodAll enc Try.prog W 0 (fun _ => true) true Try.f4.params.toList args.toList ds p := hA0
  rw [Try.params4] at hA hval
  obtain ⟨v0, vs0, d0, ds0, p0, q0, hargs, rfl, rfl, h0, r0⟩ := trodAll_cons hA
  obtain ⟨v1, vs1, d1, ds1, p1, q1, rfl, rfl, rfl, h1, r1⟩ := trodAll_cons r0
  obtain ⟨v2, vs2, d2, ds2, p2, q2, rfl, rfl, rfl, h2, r2⟩ := trodAll_cons r1
  obtain ⟨rfl, rfl, rfl⟩ := trodAll_nil r2
  obtain rfl : args = #[v0, v1, v2] := by cases args; simp_all
  obtain ⟨rfl, rfl⟩ := trodVars_none hV
  obtain ⟨p0, L0, c0, rfl, hL0⟩ := open_hds (hval 0 27 v0 rfl rfl) h0
  obtain ⟨a1, rfl, rfl, rfl⟩ := open_bool Try.underlying4 (hval 1 4 v1 rfl rfl) h1
  obtain ⟨a2, rfl, rfl, rfl⟩ := open_bool Try.underlying4 (hval 2 4 v2 rfl rfl) h2
  clear hA0 hval0
  refine (walk p0 L0 c0 a1 a2 W hL0  ).mono fun e W' ⟨he, hg⟩ => ?_
  subst he
  exact ⟨_, rfl, post_bel readable hW' rfl (fun _ _ _ => (trodAll_cons_mk (shut_bool Try.underlying4 _) trodAll_mk0)) rfl (fun _ => rfl)
    hg (ok_one (by kernel_rfl) rfl (okWide_bool_mk Try.underlying4 _))⟩

theorem over : Rows.listTurnedRow.holds Try.pinned (OpenSpec.ofChange Rows.listTurnedSpec) :=
  OpenClaim.holds_of_wide 4 Try.f4 rfl rfl rfl rfl rfl rfl rfl ⟨rfl, rfl, rfl, rfl, rfl⟩ rfl rfl rfl rfl rfl (by kernel_rfl) Try.func4 (by kernel_rfl)
    (of_decide_eq_true (by kernel_rfl)) (by unfold Func.isWrapper; first | (rw [if_pos (by decide +kernel)]; kernel_rfl) | (rw [if_neg (by decide +kernel)]; exact ⟨rfl, rfl⟩))
    (fun os started H enc _ => lifted os started H enc)

theorem proved : Rows.ListTurnedSaid :=
  over
end Go.Proofs.Ytefhcdnilbojkaa.listTurned
namespace Go.Proofs.Ytefhcdnilbojkaa
theorem listTurned_holds : Rows.ListTurnedSaid :=
  listTurned.proved
#print axioms listTurned_holds
end Go.Proofs.Ytefhcdnilbojkaa
