/- ListRemoves: whoever is removed from the midst leaves all others in their order, and may come again, however many there are and whichever are removed: the statement as given. No condition. -/
import Derived.Test.YtefhcdnilbojkaaLR
import Derived.WalkKit
import Derived.ProofKit
import Derived.OpenShut
import Derived.ShutString
namespace Go.Proofs.Ytefhcdnilbojkaa.listRemoves
open Go.ChangeShapes Go.WideShapes Go.ChangeAt Go.RowKit
open Go.ChangeMaps (open_string shut_string)
set_option linter.unusedVariables false
set_option linter.unusedSimpArgs false

theorem own : ownKnob Try.prog.godebug = none := by kernel_rfl

set_option maxRecDepth 100000 in
set_option maxHeartbeats 16000000 in
theorem walk (a0 : Int) (p1 : Option Addr) (L1 : List Int) (c1 : Nat) (w : World) (w0 : (Lit.int .u8 a0).wf = true) (hL1 : Row8 w p1 L1) :
    Calls Try.prog 5 #[.int .u8 a0, .slice p1 L1.length c1] w fun e w' => e = .returned (.bool true) ∧ Below w.heap.size w w' := by
  obtain ⟨M, rfl⟩ : ∃ M : Nat, a0 = M := ⟨a0.toNat, by have := wf_u8 w0; omega⟩
  have hM : M ≤ 255 := by have := wf_u8 w0; omega
  have kw := fun W => works_any W
  by_cases hlong : 300 < L1.length
  · have d : decide ((300 : Int) < (L1.length : Int)) = true := by simp; omega
    go_enter Try.func5, Try.ntmps5
    go_wp2_with (go_at_call 8; refine (kw _).mono ?_; rintro e w3 ⟨rfl, hb⟩)
    all_goals go_returns
    exact ⟨rfl, hb⟩
  have d1 : decide ((300 : Int) < (L1.length : Int)) = false := by simp; omega
  have k1 := new_li w
  have e0 : IntKind.i64.wrap (M : Int) = M := IntWalk.i64_in _ (by omega)
  go_enter Try.func5, Try.ntmps5
  go_upto_region 4 with (go_at_call 9; refine k1.mono ?_; rintro e w1 ⟨b, S, rfl, h1, hb1⟩)
  clear k1
  generalize hB0 : w.heap.size = B at h1 hb1 ⊢
  replace hB0 : Hid _ := hB0
  replace hL1 : Hid _ := hL1
  rw [show ([] : List HKey) = keepK 0 [] from rfl] at h1
  go_wp2
  go_loopw [6] (fun n6 wr => ∃ (i : Nat) (S : List Nat), n6 = .int .i64 i ∧ i ≤ M ∧ Li wr B b (keepK i []) S ∧ Below B w wr) (fun n6 _ => M - (valOf n6).toNat)
  case atStart => exact ⟨0, S, rfl, by omega, h1, hb1⟩
  case round =>
    clear h1 hb1
    obtain ⟨i, S, rfl, hi, hLi, hbl⟩ := hrel
    by_cases hin : i < M
    · have d : decide ((i : Int) < M) = true := by simp; omega
      have e9 : IntKind.i64.wrap ((i : Int) + 1) = (i : Int) + 1 := IntWalk.i64_in _ (by omega)
      have e8 : IntKind.u8.wrap (i : Int) = i := IntWalk.u8_in _ (by omega)
      have k2 := one_any i (by omega) wr
      have hn : (((i : Int), 1) : HKey) ∉ keepK i [] := fun q => by have := (mem_keepK (by omega)).1 q; omega
      have k3 := fun W hb => push_w (hLi.bel (w' := W) hb) i false 0 (keepK (i + 1) []) (by rw [if_neg hn]) (by rw [pushM, if_neg hn, if_neg (by simp)]; simp only [keepK]; rw [keep_succ_no (by simp)]; simp [oneK])
      go_wp2_with (first
        | (go_at_call 22; go_loud (refine k2.mono ?_; rintro e w3 ⟨rfl, hb3⟩))
        | (go_at_call 19; go_loud (refine (k3 _ hb3).mono ?_; rintro e w4 ⟨rfl, S4, h4, hF4⟩)))
      exact ⟨⟨i + 1, S4, by simp, by omega, h4, (hbl.trans (hb3.mono hLi.size)).trans hF4.bel⟩, by simp [valOf]; omega⟩
    · have d : decide ((i : Int) < M) = false := by simp; omega
      obtain rfl : i = M := by omega
      have hmm := @run_makeMap Try.prog
      go_upto_region 10 with fail
      have hLg := hLi.alloc (.map #[] 0)
      have hI0 := IM.new wr
      have hgS : wr.heap.size ∉ S := fun q => by have := (hLi.lt _ q).2; omega
      have hbg : Below B w (wr.alloc (.map #[] 0)) := hbl.alloc hLi.size _
      have hgB : B ≤ wr.heap.size := hLi.size
      clear hmm hLi hbl
      generalize wr.alloc (.map #[] 0) = w2 at hLg hI0 hbg ⊢
      generalize wr.heap.size = gm at hI0 hgS hgB ⊢
      rw [show (fun _ => none : Int → Option Value) = goneF (L1.take 0) by funext k; simp [goneF]] at hI0
      go_wp2
      go_loopw [8] (fun n8 wr => ∃ (j : Nat) (S : List Nat) (n : Nat), n8 = .int .i64 j ∧ j ≤ L1.length ∧ Li wr B b (keepK i (L1.take j)) S ∧ gm ∉ S ∧ IM wr gm n (goneF (L1.take j)) ∧ Below B w wr) (fun n8 _ => L1.length - (valOf n8).toNat)
      case atStart => exact ⟨0, S, 0, rfl, by omega, by simpa using hLg, hgS, hI0, hbg⟩
      case round =>
        clear hLg hI0 hbg hgS
        obtain ⟨j, S, n, rfl, hj, hLi, hgS, hI, hbl⟩ := hrel
        by_cases hjl : j < L1.length
        · have dj : decide ((j : Int) < L1.length) = true := by simp; omega
          have e9 : IntKind.i64.wrap ((j : Int) + 1) = (j : Int) + 1 := IntWalk.i64_in _ (by omega)
          obtain ⟨xb, xo, x, hxj, hxc, hxr, hxb, hai⟩ := idx8 hL1.out hjl
          obtain ⟨c, rfl⟩ : ∃ c : Nat, x = c := ⟨x.toNat, by omega⟩
          have hB1 := hB0.out
          have hbs := hbl.size
          have r0 := (hbl.cell (p := ⟨xb, xo, none⟩) (by simp; omega)).trans hxc
          have hai' := hai c1
          have ec : IntKind.i64.wrap (c : Int) = c := IntWalk.i64_in _ (by omega)
          have hG1 : L1.take (j + 1) = L1.take j ++ [(c : Int)] := by rw [List.take_add_one, hxj]; rfl
          have k2 := one_any c (by omega) wr
          have k3 := fun W hb => remove_li W B b _ S (hLi.bel (w' := W) hb) ((c : Int), 1)
          rw [keep_erase, ← hG1] at k3
          have lk := fun W hW => IM.look1 Try.underlying52 Try.underlying3 (hI.keep (w' := W) hW) (c : Int) (zero3 W)
          have hput := fun W hW => IM.put (w := W) Try.underlying52 Try.underlying3 (hI.keep (w' := W) hW) (k := (c : Int)) (by unfold I64; omega) (.int .i64 1)
          simp only [gone_get] at lk
          simp only [gone_upd, ← hG1] at hput
          have hgl := hI.lt
          have hcase : (decide ((((c : Int), 1) : HKey) ∈ keepK i (L1.take j)) = true ∧ decide ((c : Int) < i) = true ∧ (if (c : Int) ∈ L1.take j then (1 : Int) else 0) = 0) ∨ (decide ((((c : Int), 1) : HKey) ∈ keepK i (L1.take j)) = false ∧ decide ((c : Int) < i) = true ∧ (if (c : Int) ∈ L1.take j then (1 : Int) else 0) = 1) ∨ (decide ((((c : Int), 1) : HKey) ∈ keepK i (L1.take j)) = false ∧ decide ((c : Int) < i) = false) := by
            simp only [decide_eq_true_eq, decide_eq_false_iff_not, mem_keepK (show (0 : Int) ≤ c by omega)]
            by_cases h1 : (c : Int) < i
            · by_cases h2 : (c : Int) ∈ L1.take j
              · right; left; simp [h1, h2]
              · left; simp [h1, h2]
            · right; right; simp [h1]
          clear hai hxc hI
          rcases hcase with ⟨q1, q2, q3⟩ | ⟨q1, q2, q3⟩ | ⟨q1, q2⟩
          · have q4 : c < i := by simpa using q2
            have q5 : decide (c < i) = true := by simpa using q4
            rw [q1] at k3
            rw [q3] at lk
            go_wp2_with (first
              | (go_at_call 22; go_loud (refine k2.mono ?_; rintro e w3 ⟨rfl, hb3⟩))
              | (go_at_call 23; go_loud (refine (k3 _ hb3).mono ?_; rintro e w4 ⟨rfl, S4, h4, hF4⟩; have hgm : w4.heap[gm]? = wr.heap[gm]? := ((hF4.keep gm (by have := hb3.size; omega) hgS).trans (hb3.block gm hgl)); have lk4 := lk w4 hgm; obtain ⟨w5, p5, i5, t5⟩ := hput w4 hgm)))
            have hk5 : ∀ i, i < w4.heap.size → i ≠ gm → w5.heap[i]? = w4.heap[i]? := fun i hi hne => t5.grown.block i hi (by simp; exact hne)
            have hgS4 : gm ∉ S4 := fun q => by
              rcases hF4.new _ q with r | r
              · exact hgS r
              · have := hb3.size; omega
            have hw4 : Below B w w4 := (hbl.trans (hb3.mono hLi.size)).trans hF4.bel
            exact ⟨⟨j + 1, S4, _, by simp, by omega, h4.keep (fun k hk => hk5 k (h4.lt k hk).2 (fun q => hgS4 (q ▸ hk))), hgS4, i5, hw4.grown t5.grown h4.size (fun k q => by cases q; exact hgB)⟩, by simp [valOf]; omega⟩
          · have q4 : c < i := by simpa using q2
            have q5 : decide (c < i) = true := by simpa using q4
            rw [q1] at k3
            rw [q3] at lk
            go_wp2_with (first
              | (go_at_call 22; go_loud (refine k2.mono ?_; rintro e w3 ⟨rfl, hb3⟩))
              | (go_at_call 23; go_loud (refine (k3 _ hb3).mono ?_; rintro e w4 ⟨rfl, S4, h4, hF4⟩; have hgm : w4.heap[gm]? = wr.heap[gm]? := ((hF4.keep gm (by have := hb3.size; omega) hgS).trans (hb3.block gm hgl)); have lk4 := lk w4 hgm; obtain ⟨w5, p5, i5, t5⟩ := hput w4 hgm)))
            have hk5 : ∀ i, i < w4.heap.size → i ≠ gm → w5.heap[i]? = w4.heap[i]? := fun i hi hne => t5.grown.block i hi (by simp; exact hne)
            have hgS4 : gm ∉ S4 := fun q => by
              rcases hF4.new _ q with r | r
              · exact hgS r
              · have := hb3.size; omega
            have hw4 : Below B w w4 := (hbl.trans (hb3.mono hLi.size)).trans hF4.bel
            exact ⟨⟨j + 1, S4, _, by simp, by omega, h4.keep (fun k hk => hk5 k (h4.lt k hk).2 (fun q => hgS4 (q ▸ hk))), hgS4, i5, hw4.grown t5.grown h4.size (fun k q => by cases q; exact hgB)⟩, by simp [valOf]; omega⟩
          · have q4 : ¬ c < i := by simpa using q2
            have q5 : decide (c < i) = false := by simpa using q4
            rw [q1] at k3
            go_wp2_with (first
              | (go_at_call 22; go_loud (refine k2.mono ?_; rintro e w3 ⟨rfl, hb3⟩))
              | (go_at_call 23; go_loud (refine (k3 _ hb3).mono ?_; rintro e w4 ⟨rfl, S4, h4, hF4⟩; have hgm : w4.heap[gm]? = wr.heap[gm]? := ((hF4.keep gm (by have := hb3.size; omega) hgS).trans (hb3.block gm hgl)); have lk4 := lk w4 hgm; obtain ⟨w5, p5, i5, t5⟩ := hput w4 hgm)))
            have hk5 : ∀ i, i < w4.heap.size → i ≠ gm → w5.heap[i]? = w4.heap[i]? := fun i hi hne => t5.grown.block i hi (by simp; exact hne)
            have hgS4 : gm ∉ S4 := fun q => by
              rcases hF4.new _ q with r | r
              · exact hgS r
              · have := hb3.size; omega
            have hw4 : Below B w w4 := (hbl.trans (hb3.mono hLi.size)).trans hF4.bel
            exact ⟨⟨j + 1, S4, _, by simp, by omega, h4.keep (fun k hk => hk5 k (h4.lt k hk).2 (fun q => hgS4 (q ▸ hk))), hgS4, i5, hw4.grown t5.grown h4.size (fun k q => by cases q; exact hgB)⟩, by simp [valOf]; omega⟩
        · have dj : decide ((j : Int) < L1.length) = false := by simp; omega
          obtain rfl : j = L1.length := by omega
          rw [List.take_length] at hLi hI
          have hXle := keep_len i L1
          have k4 := all_li wr B b _ S hLi (by rw [keepK_len]; omega)
          simp only [keepK_len] at k4
          go_upto_region 18 with (go_at_call 12; go_loud (refine k4.mono ?_; rintro e w3 ⟨v, rfl, hrow, hb3⟩; obtain ⟨vp, vc, rfl⟩ : ∃ p cap, v = .slice p (keepL i L1).length cap := own_shape hrow))
          replace hrow := row_base hrow hLi.size
          have h3 := hLi.bel hb3
          have i3 := hI.keep (hb3.block gm hI.lt)
          have hb4 : Below B w w3 := hbl.trans (hb3.mono hLi.size)
          clear k4 hLi hI hbl hb3
          go_wp2
          go_loopw [11, 12] (fun n11 n12 wk => ∃ k : Nat, n12 = .int .i64 k ∧ n11 = .int .i64 ((keepL k L1).length : Nat) ∧ k ≤ i ∧ Below w3.heap.size w3 wk) (fun _ n12 _ => i - (valOf n12).toNat)
          case atStart => exact ⟨0, rfl, rfl, by omega, Below.refl _ _⟩
          case round =>
            obtain ⟨k, rfl, rfl, hk, hbk⟩ := hrel
            have ik := i3.keep (hbk.block gm i3.lt)
            by_cases hki : k < i
            · have dk : decide ((k : Int) < i) = true := by simp; omega
              have e9 : IntKind.i64.wrap ((k : Int) + 1) = (k : Int) + 1 := IntWalk.i64_in _ (by omega)
              have lk := IM.look1 Try.underlying52 Try.underlying3 ik (k : Int) (zero3 wr)
              rw [gone_get] at lk
              by_cases hG : (k : Int) ∈ L1
              · rw [if_pos hG] at lk
                go_wp2
                exact ⟨⟨k + 1, by simp, by rw [keep_succ_in hG], by omega, hbk⟩, by simp [valOf]; omega⟩
              · rw [if_neg hG] at lk
                have hat := keep_at hki hG
                have hlt := (List.getElem?_eq_some_iff.1 hat).1
                have hrk := row_kept hrow fun g hg => hbk.block g (hrow.lt g hg).2
                have hrk' : wr.ownsRow B 32 2 (.slice vp (keepK i L1).length vc) (keepK i L1).length (hCells (keepK i L1)) := by rw [keepK_len]; exact hrk
                obtain ⟨g, y, hy, hgl, hgo, hc0, hc1, hai⟩ := idx34 hrk' (j := (keepL k L1).length) (by rw [keepK_len]; exact hlt) (by rw [keepK_len]; omega)
                obtain rfl : oneK k = y := by
                  rw [keepK, List.getElem?_map, hat] at hy
                  simpa using hy
                simp only [oneK] at hc0 hc1
                rw [keepK_len] at hai
                have e8 : IntKind.u8.wrap (k : Int) = k := IntWalk.u8_in _ (by omega)
                have e7 : IntKind.i64.wrap (((keepL k L1).length : Int) + 1) = ((keepL k L1).length : Int) + 1 := IntWalk.i64_in _ (by omega)
                have d5 : decide (((keepL i L1).length : Int) ≤ ((keepL k L1).length : Int)) = false := by simp; omega
                have d6 : decide ((keepL i L1).length ≤ (keepL k L1).length) = false := by simp; omega
                have d7 : ¬ (keepL i L1).length ≤ (keepL k L1).length := by omega
                have nq := fun W => neqH k k 1 1 W
                simp only [beq_self_eq_true, Bool.and_self, Bool.not_true] at nq
                have kO := fun p : BlBy wr => one_any k (by omega) p.wo
                have x0 := fun p : BlBy wr => (p.bl.cell (p := ⟨g, (keepL k L1).length * 2, none⟩) hgl).trans hc0
                have x1 := fun p : BlBy wr => (p.bl.cell (p := ⟨g, (keepL k L1).length * 2 + 1, none⟩) hgl).trans hc1
                go_upto_region 23 with fail
                try simp only [List.append_eq, List.cons_append, List.nil_append]
                have hne : Nonempty (BlBy wr) := ⟨⟨wr, Below.refl _ wr⟩⟩
                refine wp_region_bl (by kernel_rfl) (by kernel_rfl) ?_
                repeat (first
                  | go_big_quiet_skip
                  | (go_big_quiet_want; go_big_quiet_op; first
                    | go_big_quiet_on
                    | (apply Exists.intro
                       refine ⟨fun p => ?_, ?_⟩
                       · (go_at_call 22; exact calls_bl (kO p))
                       go_big_quiet_on)))
                refine wpQuiet_nil ?_
                intro wq hw'
                obtain ⟨⟨wq2, hq⟩, e⟩ := hw'
                simp only at e
                subst e
                clear x0 x1 hc0 hc1 hai kO nq lk
                go_wp2
                exact ⟨⟨k + 1, by simp, by rw [keep_succ_no hG]; simp, by omega, hbk.trans (hq.mono hbk.size)⟩, by simp [valOf]; omega⟩
            · have dk : decide ((k : Int) < i) = false := by simp; omega
              obtain rfl : k = i := by omega
              have hLk := h3.bel hbk
              have hbW := hb4.trans (hbk.mono h3.size)
              have k5 := len_li wr B b _ S hLk
              rw [keepK_len] at k5
              go_upto_region 28 with (go_at_call 13; refine k5.mono ?_; rintro e w' ⟨rfl, hw⟩; rw [hw]; clear hw)
              clear h3 i3 hb4 hbk k5 hrow
              rw [← fill_zero] at hLk
              go_wp2
              go_loopw [13] (fun n13 wk => ∃ (j : Nat) (S : List Nat), n13 = .int .i64 j ∧ j ≤ k ∧ Li wk B b (fillK k j L1) S ∧ gm ∉ S ∧ IM wk gm n (goneF L1) ∧ Below B w wk) (fun n13 _ => k - (valOf n13).toNat)
              case atStart => exact ⟨0, S, rfl, by omega, hLk, hgS, ik, hbW⟩
              case round =>
                clear hLk hgS ik hbW
                obtain ⟨j, S, rfl, hj, hLj, hgS, ij, hbj⟩ := hrel
                by_cases hjk : j < k
                · have dj : decide ((j : Int) < k) = true := by simp; omega
                  have e9 : IntKind.i64.wrap ((j : Int) + 1) = (j : Int) + 1 := IntWalk.i64_in _ (by omega)
                  have e8 : IntKind.u8.wrap (j : Int) = j := IntWalk.u8_in _ (by omega)
                  have lk := fun W hW => IM.look1 Try.underlying52 Try.underlying3 (ij.keep (w' := W) hW) (j : Int) (zero3 W)
                  simp only [gone_get] at lk
                  have hgl := ij.lt
                  have k6 := one_any j (by omega)
                  by_cases hG : (j : Int) ∈ L1
                  · rw [if_pos hG] at lk
                    obtain ⟨f1, f2⟩ := fill_in (M := k) hG
                    have k7 := fun W hb => push_w (hLj.drew.bel (w' := W) hb) j true 0 (fillK k (j + 1) L1) (if_neg f2) f1
                    go_upto_region 31 with fail
                    go_region_held3 (fun w' => w'.heap[gm]? = wr.heap[gm]?) (first | assumption | rfl) (first
                      | (go_at_call 22; go_loud (refine (k6 _).mono ?_; rintro e w5 ⟨rfl, hb5⟩; have g5 : w5.heap[gm]? = wr.heap[gm]? := hb5.block gm hgl; have s5 : wr.heap.size ≤ w5.heap.size := hb5.size))
                      | (go_at_call 19; go_loud (refine (k7 _ hb5).mono ?_; rintro e w6 ⟨rfl, S6, h6, hF6⟩; have g6 : w6.heap[gm]? = wr.heap[gm]? := (hF6.keep gm (by omega) hgS).trans g5)))
                    all_goals go_wp2
                    all_goals
                      have hgS6 : gm ∉ S6 := fun q => by
                        rcases hF6.new _ q with r | r
                        · exact hgS r
                        · omega
                      exact ⟨⟨j + 1, S6, by simp, by omega, h6, hgS6, ij.keep g6, (hbj.drew.trans (hb5.mono hLj.size)).trans hF6.bel⟩, by simp [valOf]; omega⟩
                  · rw [if_neg hG] at lk
                    obtain ⟨f1, f2⟩ := fill_no hjk hG
                    have f3 : (((j : Int), 1) : HKey) ∈ fillK k j L1 := f2
                    have k7 := fun W hb => push_w (hLj.drew.bel (w' := W) hb) j true 7 (fillK k (j + 1) L1) (if_pos f3) (by rw [f1, pushM, if_pos f3])
                    go_upto_region 31 with fail
                    go_region_held3 (fun w' => w'.heap[gm]? = wr.heap[gm]?) (first | assumption | rfl) (first
                      | (go_at_call 22; go_loud (refine (k6 _).mono ?_; rintro e w5 ⟨rfl, hb5⟩; have g5 : w5.heap[gm]? = wr.heap[gm]? := hb5.block gm hgl; have s5 : wr.heap.size ≤ w5.heap.size := hb5.size))
                      | (go_at_call 19; go_loud (refine (k7 _ hb5).mono ?_; rintro e w6 ⟨rfl, S6, h6, hF6⟩; have g6 : w6.heap[gm]? = wr.heap[gm]? := (hF6.keep gm (by omega) hgS).trans g5)))
                    all_goals go_wp2
                    all_goals
                      have hgS6 : gm ∉ S6 := fun q => by
                        rcases hF6.new _ q with r | r
                        · exact hgS r
                        · omega
                      exact ⟨⟨j + 1, S6, by simp, by omega, h6, hgS6, ij.keep g6, (hbj.drew.trans (hb5.mono hLj.size)).trans hF6.bel⟩, by simp [valOf]; omega⟩
                · have dj : decide ((j : Int) < k) = false := by simp; omega
                  obtain rfl : j = k := by omega
                  have k8 := len_li wr B b _ S hLj
                  rw [fill_len] at k8
                  go_wp2_with (first | (go_at_call 13; refine k8.mono ?_; rintro e w' ⟨rfl, hw⟩; rw [hw]; clear hw) | (go_at_call 8; refine (kw _).mono ?_; rintro e w9 ⟨rfl, hb9⟩))
                  all_goals go_returns
                  have hbe := hbj.trans (hb9.mono hLj.size)
                  exact ⟨rfl, by rw [hB0.out]; exact hbe⟩

theorem readable : ∀ t ∈ Try.f5.params.toList, Try.prog.readableRec t = true ∧ t < Try.prog.types.size := by
  rw [Try.params5]
  intro t ht
  simp at ht
  rcases ht with rfl | rfl
  all_goals exact ⟨by kernel_rfl, of_decide_eq_true (by kernel_rfl)⟩
set_option maxRecDepth 100000 in
theorem lifted (os : Os) (started : os.Started) (H : Type) (enc : TypeId × Value → H) :
    ReturnsInHanded {} Try.checked os 5 .any (Rows.listRemovesSpec.pre6 enc Try.prog Try.f5 Rows.listRemovesRow.domain false) (Rows.listRemovesSpec.post enc Try.prog Try.f5 false true false false) := by
  refine returnsInHanded_of_change (C := Try.checked) own started (by kernel_rfl) Try.func5
    (ChangeSpec.witness6 (enc := enc) (C := Try.checked) false ⟨#[], #[.int .u8 0, .slice none 0 0], []⟩ 8 (by kernel_rfl) (by kernel_rfl) (by kernel_rfl) (by kernel_rfl)) ?_
  intro W base args ds gs before hval0 hW hcnd _
  have hval : ∀ (j : Nat) t v, Try.f5.params[j]? = some t → args[j]? = some v → Value.okWide Try.prog W .any base t v := hval0
  have hW' := hW
  obtain ⟨p, q, hA0, hV, rfl, hfz, hnd⟩ := hW
  have hA : DataW.TrodAll enc Try.prog W 0 (fun _ => true) true Try.f5.params.toList args.toList ds p := hA0
  rw [Try.params5] at hA hval
  obtain ⟨v0, vs0, d0, ds0, p0, q0, hargs, rfl, rfl, h0, r0⟩ := trodAll_cons hA
  obtain ⟨v1, vs1, d1, ds1, p1, q1, rfl, rfl, rfl, h1, r1⟩ := trodAll_cons r0
  obtain ⟨rfl, rfl, rfl⟩ := trodAll_nil r1
  obtain rfl : args = #[v0, v1] := by cases args; simp_all
  obtain ⟨rfl, rfl⟩ := trodVars_none hV
  obtain ⟨a0, rfl, rfl, rfl, w0⟩ := open_int Try.underlying5 (hval 0 5 v0 rfl rfl) h0
  obtain ⟨p1, L1, c1, rfl, hL1⟩ := open_row8 (hval 1 50 v1 rfl rfl) h1
  clear hA0 hval0
  refine (walk a0 p1 L1 c1 W w0 hL1).mono fun e W' ⟨he, hg⟩ => ?_
  subst he
  exact ⟨_, rfl, post_bel readable hW' rfl (fun _ _ _ => (trodAll_cons_mk (shut_bool Try.underlying4 _) trodAll_mk0)) rfl (fun _ => rfl)
    hg (ok_one (by kernel_rfl) rfl (okWide_bool_mk Try.underlying4 _))⟩

theorem over : Rows.listRemovesRow.holds Try.pinned (OpenSpec.ofChange Rows.listRemovesSpec) :=
  OpenClaim.holds_of_wide 5 Try.f5 rfl rfl rfl rfl rfl rfl rfl ⟨rfl, rfl, rfl, rfl, rfl⟩ rfl rfl rfl rfl rfl (by kernel_rfl) Try.func5 (by kernel_rfl)
    (of_decide_eq_true (by kernel_rfl)) (by unfold Func.isWrapper; first | (rw [if_pos (by decide +kernel)]; kernel_rfl) | (rw [if_neg (by decide +kernel)]; exact ⟨rfl, rfl⟩))
    (fun os started H enc _ => lifted os started H enc)

theorem proved : Rows.ListRemovesSaid :=
  over
end Go.Proofs.Ytefhcdnilbojkaa.listRemoves
namespace Go.Proofs.Ytefhcdnilbojkaa
theorem listRemoves_holds : Rows.ListRemovesSaid :=
  listRemoves.proved
#print axioms listRemoves_holds
end Go.Proofs.Ytefhcdnilbojkaa
