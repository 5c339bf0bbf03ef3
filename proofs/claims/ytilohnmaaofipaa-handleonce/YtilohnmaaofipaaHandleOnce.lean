/- HandleOnce: no handle is made twice, and who has been dropped never lives again, though its slot has another one (P13.3), for every two rows of bytes: the statement as given. No condition. -/
import Derived.Test.YtilohnmaaofipaaHH
import Derived.WalkKit
import Derived.ProofKit
import Derived.OpenShut
import Derived.ShutString
namespace Go.Proofs.Ytilohnmaaofipaa.handleOnce
open Go.ChangeShapes Go.WideShapes Go.ChangeAt Go.RowKit
open Go.ChangeMaps (open_string shut_string)
set_option linter.unusedVariables false
set_option linter.unusedSimpArgs false

theorem own : ownKnob Try.prog.godebug = none := by kernel_rfl

set_option maxRecDepth 100000 in
set_option maxHeartbeats 16000000 in
theorem walk (p0 : Option Addr) (L0 : List Int) (c0 : Nat) (p1 : Option Addr) (L1 : List Int) (c1 : Nat) (w : World) (hL0 : Row8 w p0 L0) (hL1 : Row8 w p1 L1) :
    Calls Try.prog 4 #[.slice p0 L0.length c0, .slice p1 L1.length c1] w fun e w' => e = .returned (.bool true) ∧ Below w.heap.size w w' := by
  have kw := fun W => works_any W
  by_cases hl0 : 200 < L0.length
  · have d1 : decide ((200 : Int) < (L0.length : Int)) = true := by simp; omega
    go_enter Try.func4, Try.ntmps4
    go_wp2_with (go_at_call 7; refine (kw _).mono ?_; rintro e w3 ⟨rfl, hb⟩)
    all_goals go_returns
    exact ⟨rfl, hb⟩
  have d1 : decide ((200 : Int) < (L0.length : Int)) = false := by simp; omega
  by_cases hl1 : 200 < L1.length
  · have d2 : decide ((200 : Int) < (L1.length : Int)) = true := by simp; omega
    go_enter Try.func4, Try.ntmps4
    go_wp2_with (go_at_call 7; refine (kw _).mono ?_; rintro e w3 ⟨rfl, hb⟩)
    all_goals go_returns
    exact ⟨rfl, hb⟩
  have d2 : decide ((200 : Int) < (L1.length : Int)) = false := by simp; omega
  have k1 := new_any w
  have hmm := @run_makeMap Try.prog
  obtain ⟨i34, hi34, hz0, hz1, hz2⟩ := info_parts info34
  go_enter Try.func4, Try.ntmps4
  go_upto_region 5 with (go_at_call 8; refine k1.mono ?_; rintro e wa ⟨rfl, hTa, hba⟩)
  have hab : w.heap.size + 2 < wa.heap.size := heap_lt hTa.cells
  have hOn : On (wa.alloc (.map #[] 0)) w.heap.size (w.heap.size + 2) w.heap.size (w.heap.size + 1) wa.heap.size (fun _ => 0) (fun _ => none) [] (.slice none 0 0) 0 := by
    refine ⟨hTa.alloc _, ⟨0, ?_⟩, ⟨rfl, .inl ⟨rfl, rfl⟩⟩, by simp, by simp, by simp, by simp, by omega, by omega, by omega⟩
    have e : seenF (fun _ => none) [] = fun _ => none := by funext k; simp [seenF]
    rw [e]
    exact HM.new wa
  have hbl : Below w.heap.size w (wa.alloc (.map #[] 0)) := hba.alloc hba.size _
  clear k1 hTa hba hmm
  generalize wa.alloc (.map #[] 0) = wb at hOn hbl ⊢
  generalize wa.heap.size = S at hOn hab ⊢
  have hR0 : Hid (Row8 w p0 L0) := hL0
  have hR1 : Hid (Row8 w p1 L1) := hL1
  clear hL0 hL1
  generalize hB0 : w.heap.size = B at hOn hab hbl ⊢
  replace hB0 : Hid _ := hB0
  go_wp2
  go_loopw [7, 8] (fun n7 n8 wr => ∃ (i : Nat) (N : Int → Nat) (L : Int → Option Nat) (A : List HKey) (p : Option Addr) (c : Nat), n8 = .int .i64 i ∧ n7 = .slice p A.length c ∧ i ≤ max L0.length L1.length ∧ On wr B (B + 2) B (B + 1) S N L A (.slice p A.length c) i ∧ Below B w wr) (fun _ n8 _ => max L0.length L1.length - (valOf n8).toNat)
  case atStart => exact ⟨0, _, _, [], none, 0, rfl, rfl, by omega, hOn, hbl⟩
  case round =>
    obtain ⟨i, N, L, A, p, c, rfl, rfl, hi, hOn, hbl⟩ := hrel
    by_cases hin : i < max L0.length L1.length
    · have e9 : IntKind.i64.wrap ((i : Int) + 1) = (i : Int) + 1 := IntWalk.i64_in _ (by omega)
      by_cases h0 : i < L0.length
      · have dA : decide ((i : Int) < L0.length) = true := by simp; omega
        go_upto_if 40 with fail
        go_cut [7] (fun n7 wx => ∃ (N : Int → Nat) (L : Int → Option Nat) (A : List HKey) (p : Option Addr) (c : Nat), n7 = .slice p A.length c ∧ On wx B (B + 2) B (B + 1) S N L A (.slice p A.length c) (i + 1) ∧ Below B w wx)
        case first =>
          obtain ⟨xb, xo, x, hxc, ⟨hx0, hx1⟩, hxb, hxi⟩ := idx8 hR0.out h0 (by omega)
          have r0 := (hbl.cell (p := ⟨xb, xo, none⟩) (by have := hB0.out; simp; omega)).trans hxc
          have hxi' := hxi c0
          cases hL : L x with
          | some g =>
            have kM := make_there wr _ _ _ _ _ _ _ hOn.tb x (by omega) g hL
            unfold hdV at kM
            go_wp2_with (go_at_call 11; refine kM.mono ?_; rintro e v1 ⟨rfl, hb1⟩)
            all_goals go_meet
            case rel =>
              exact ⟨N, L, A, p, c, rfl, hOn.below (hb1.alloc hb1.size _) (by omega) (by omega), (hbl.trans (hb1.mono hOn.tb.size)).alloc (by have := hb1.size; have := hOn.tb.size; omega) _⟩
          | none =>
            have kM := make_ok wr _ _ _ _ _ _ _ hOn.tb x (by omega) (by unfold I64; omega) hL (by omega)
            generalize hg : N x + 1 = g at kM
            replace hg : Hid _ := hg
            unfold hdV at kM
            go_upto_region 12 with (go_at_call 11; refine kM.mono ?_; rintro e v1 ⟨rfl, hT1, hF1⟩)
            obtain ⟨⟨kk, hS1⟩, hr1⟩ := hOn.fh hF1
            have hnot : ((x, g) : HKey) ∉ A := fun hA => by have h1 := hOn.le _ hA; have h2 := hg.out; simp at h1; omega
            have r1 := cell_al ((hF1.bel.cell (p := ⟨xb, xo, none⟩) (by have := hB0.out; simp; omega)).trans r0) (.cells #[.int .i64 x, .int .u64 g] 34)
            have hT2 := hT1.alloc (.cells #[.int .i64 x, .int .u64 g] 34)
            have hS2 := hS1.alloc (.cells #[.int .i64 x, .int .u64 g] 34)
            have hr2 := hr1.alloc (.cells #[.int .i64 x, .int .u64 g] 34)
            have hy2 := heap_alloc_new v1 (.cells #[.int .i64 x, .int .u64 g] 34)
            have hb2 := (hbl.trans hF1.bel).alloc hT1.size (.cells #[.int .i64 x, .int .u64 g] 34)
            clear kM r0
            generalize v1.alloc (.cells #[.int .i64 x, .int .u64 g] 34) = W1 at r1 hT2 hS2 hr2 hy2 hb2 ⊢
            generalize v1.heap.size = q at hy2 ⊢
            have y0 := cell_of hy2 0
            have y1 := cell_of hy2 1
            simp at y0 y1
            have lk : ∀ m, (Instr.lookup 46 (.map (some S)) (.agg #[.int .i64 x, .int .u64 g]) false).run Try.prog (W1.drewN m) = .ok (.int .i64 0) (W1.drewN m) := fun m => by
              have := (hS2.drewN m).look x g
              rw [seen_no hnot] at this
              exact this
            go_quiet (fail)
            have hT3 : Tb (W1.drewN nq) B (B + 2) B (B + 1) _ _ _ := hT2.below (Below.drewN (Below.refl _ _) nq)
            have hS3 := hS2.drewN nq
            have hr3 : (W1.drewN nq).ownsRow B 34 2 (.slice p A.length c) A.length (hCells A) := row_kept hr2 (fun _ _ => rfl)
            have hy3 : (W1.drewN nq).heap[q]? = some (.cells #[.int .i64 x, .int .u64 g] 34 (0, 0)) := hy2
            have hb3 := Below.drewN hb2 nq
            clear lk y0 y1 r1 hT2 hS2 hr2 hy2 hb2 hxi hxi' hxc
            generalize W1.drewN nq = W1d at hT3 hS3 hr3 hy3 hb3 ⊢
            have y0 := cell_of hy3 0
            have y1 := cell_of hy3 1
            simp at y0 y1
            obtain ⟨W2, p2, i2, t2⟩ := hS3.put' x g (.int .i64 1)
            have hqS : q ≠ S := by rintro rfl; exact hS3.notcells hy3
            have hy4 : W2.heap[q]? = some (.cells #[.int .i64 x, .int .u64 g] 34 (0, 0)) := (t2.grown.block _ (heap_lt hy3) (by simpa using hqS)).trans hy3
            have hr4 : W2.ownsRow B 34 2 (.slice p A.length c) A.length (hCells A) := row_kept hr3 (fun g' hg' => by
              obtain ⟨cur, e⟩ := row_cells hr3 hg'
              exact t2.grown.block _ (heap_lt e) (by simp; rintro rfl; exact hS3.notcells e))
            have hb4 : Below B w W2 := hb3.grown t2.grown hT3.size (fun k e => by cases e; exact hOn.msB)
            have z0 := cell_of hy4 0
            have z1 := cell_of hy4 1
            simp at z0 z1
            have hW2 : B ≤ W2.heap.size := Nat.le_trans hT3.size t2.grown.size
            have hAl := hOn.len
            go_wp2_with (at_builtin; refine wpList_append_own_at _ rfl _ _ 27 rfl B 34 i34 (.agg #[.int .i64 0, .int .u64 0]) 2 16 Try.underlying27 hi34 hz0 hz1 hz2 rfl (by decide) (.slice p A.length c) A.length (hCells A) rfl (hr4.alloc _) _ 1 1 [.int .i64 x, .int .u64 g] rfl rfl (news_new _ _ _ _ rfl) (by simp [Value.oneCell']) (by simp [maxLen]; omega) (by omega) (by simp; omega) ?_; go_loud (intro v' W3 hown hgrow hnil2 hloc; obtain ⟨p', c', rfl⟩ : ∃ p cap, v' = .slice p (A.length + 1) cap := own_shape hown))
            all_goals go_meet
            case rel =>
              have hg1 := hg.out
              subst hg1
              refine ⟨updN N x (N x + 1), updL L x (some (N x + 1)), A ++ [(x, N x + 1)], p', c', by simp, ?_, (hb4.alloc hW2 _).grown hgrow (by simp; omega) (fun k e => (hr4.lt k e).1)⟩
              have hown2 : W3.ownsRow B 34 2 (.slice p' (A.length + 1) c') (A.length + 1) (hCells A ++ [.int .i64 x, .int .u64 ((N x : Int) + 1)]) := by simpa using hown
              have := hOn.made (w3 := W3) (by omega) hL hT3 i2 t2 hown2 (fun i' hi' hne => (hgrow.block i' (by simp; omega) hne).trans (Below.heap_alloc _ _ _ hi')) hr4
              simpa using this
        case rest =>
          obtain ⟨N, L, A, p, c, rfl, hOn, hbl⟩ := hcut
          obtain ⟨wx0, hwx⟩ : ∃ x, x = wc := ⟨wc, rfl⟩
          subst hwx
          have hAl := hOn.len
          go_upto_region 16 with fail
          go_cut [81] (fun n81 wx => n81 = .bool (decide (i < L1.length ∧ A.length ≠ 0)) ∧ wx = wx0)
          case first =>
            by_cases h1 : i < L1.length
            · have dB : decide ((i : Int) < L1.length) = true := by simp; omega
              by_cases hA : A.length = 0
              · have dC : decide ((0 : Int) < A.length) = false := decide_eq_false (by omega)
                go_wp2
                all_goals go_meet
                case rel => exact ⟨by rw [decide_eq_false (fun e : i < L1.length ∧ A.length ≠ 0 => e.2 hA)], rfl⟩
              · have dC : decide ((0 : Int) < A.length) = true := decide_eq_true (by omega)
                go_wp2
                all_goals go_meet
                case rel => exact ⟨congrArg Value.bool ((decide_eq_true (by omega)).trans (decide_eq_true (show i < L1.length ∧ A.length ≠ 0 from ⟨h1, hA⟩)).symm), rfl⟩
            · have dB : decide ((i : Int) < L1.length) = false := by simp; omega
              go_wp2
              all_goals go_meet
              case rel => exact ⟨by rw [decide_eq_false (fun e : i < L1.length ∧ A.length ≠ 0 => h1 e.1)], rfl⟩
          case rest =>
            obtain ⟨rfl, hw⟩ := hcut
            subst hw
            generalize hq : decide (i < L1.length ∧ A.length ≠ 0) = q81
            replace hq : Hid _ := hq
            go_upto_if 81 with fail
            go_cut [] (fun wx => ∃ (N : Int → Nat) (L : Int → Option Nat), On wx B (B + 2) B (B + 1) S N L A (.slice p A.length c) (i + 1) ∧ Below B w wx)
            case first =>
              cases q81 with
              | false =>
                go_wp2
                all_goals go_meet
                case rel => exact ⟨N, L, hOn, hbl⟩
              | true =>
                obtain ⟨h1, hA⟩ := of_decide_eq_true hq.out
                obtain ⟨xb, xo, x, hxc, ⟨hx0, hx1⟩, hxb, hxi⟩ := idx8 hR1.out h1 (by omega)
                have r0 := (hbl.cell (p := ⟨xb, xo, none⟩) (by have := hB0.out; simp; omega)).trans hxc
                have hxi' := hxi c1
                obtain ⟨j, hj, hrm⟩ : ∃ j : Nat, j < A.length ∧ x % (A.length : Int) = (j : Int) := ⟨(x % (A.length : Int)).toNat, by have := Int.emod_lt_of_pos x (show (0 : Int) < A.length by omega); have := Int.emod_nonneg x (show (A.length : Int) ≠ 0 by omega); omega, (Int.toNat_of_nonneg (Int.emod_nonneg x (show (A.length : Int) ≠ 0 by omega))).symm⟩
                obtain ⟨g, ⟨ys, yg⟩, hy, hgl, hgo, hc0, hc1, hai⟩ := idx34 hOn.row hj (by omega)
                simp only at hc0 hc1
                rw [← hrm] at hai
                replace hrm : Hid _ := hrm
                have hyA : ((ys, yg) : HKey) ∈ A := List.mem_of_getElem? hy
                obtain ⟨kk, hS⟩ := hOn.sm
                have hseen := seen_at (L := L) hyA
                go_upto_region 18 with fail
                have hT2 := hOn.tb.alloc (.cells #[.int .i64 ys, .int .u64 yg] 34)
                have hS2 := hS.alloc (.cells #[.int .i64 ys, .int .u64 yg] 34)
                have hr2 := hOn.row.alloc (.cells #[.int .i64 ys, .int .u64 yg] 34)
                have hO2 := hOn.below ((Below.refl _ _).alloc (Nat.le_refl _) (.cells #[.int .i64 ys, .int .u64 yg] 34)) (Nat.le_refl _) (by omega)
                have hy2 := heap_alloc_new wc (.cells #[.int .i64 ys, .int .u64 yg] 34)
                have hb2 := hbl.alloc hOn.tb.size (.cells #[.int .i64 ys, .int .u64 yg] 34)
                clear r0 hxi hxi' hrm hc0 hc1 hai hS
                generalize wc.alloc (.cells #[.int .i64 ys, .int .u64 yg] 34) = W1 at hT2 hS2 hr2 hO2 hy2 hb2 ⊢
                generalize wc.heap.size = q at hy2 ⊢
                have y0 := cell_of hy2 0
                have y1 := cell_of hy2 1
                simp at y0 y1
                have kd := drop_any W1.drew _ _ _ _ _ _ _ hT2.drew ys yg
                obtain ⟨hm1, hm2⟩ : (q ≠ B ∧ q ≠ B + 1) ∧ q ≠ S := by
                  have := hT2.notcells hy2
                  refine ⟨this.2, ?_⟩
                  rintro rfl
                  exact hS2.notcells hy2
                by_cases hlive : L ys = some yg
                · have hdE : drE L ys yg = 0 := by simp [drE, hlive]
                  rw [hdE] at kd
                  rw [sn_yes (k := (ys, yg)) hlive] at hseen
                  have lk0 : (Instr.lookup 46 (.map (some S)) (.agg #[.int .i64 ys, .int .u64 yg]) false).run Try.prog W1.drew = .ok (.int .i64 1) W1.drew := by
                    have := (show HM W1.drew S kk _ from hS2).look ys yg
                    rw [hseen] at this
                    exact this
                  go_region_held3 (fun w' => w'.cell? ⟨q, 0, none⟩ = some (.int .i64 ys) ∧ w'.cell? ⟨q, 1, none⟩ = some (.int .u64 yg)) ((refine ⟨?_, ?_⟩ <;> repeat (with_reducible (first | assumption | apply cell_dr)))) (first
                    | (go_at_call 9; refine kd.mono ?_; rintro e v1 ⟨rfl, hT3, hF3⟩; have y2 := hF3.at (z := q) hy2 hm1.1 hm1.2; have s0 : v1.cell? ⟨q, 0, none⟩ = some (.int .i64 ys) := (by rw [cell_of y2]; rfl); have s1 : v1.cell? ⟨q, 1, none⟩ = some (.int .u64 yg) := (by rw [cell_of y2]; rfl); have hS3 : HM v1 S kk (seenF L A) := hS2.keep (hF3.keep _ hS2.lt hOn.ne1 hOn.ne2); have lk1 := hS3.look ys yg; rw [hseen] at lk1; simp only [Option.getD_some] at lk1))
                  all_goals go_upto_region 20 with fail
                  all_goals
                    obtain ⟨W2, p2, i2, t2⟩ := hS3.put' ys yg (.int .i64 2)
                    have hO3 := (show On W1.drew B (B + 2) B (B + 1) S N L A (.slice p A.length c) (i + 1) from hO2.below (Below.refl _ _).drew (Nat.le_refl _) (by omega)).fh hF3
                    have hO4 := hO2.dropped (x := (ys, yg)) hyA hT3 hO3.2 i2 t2
                    have hb5 : Below B w W2 := (hb2.drew.trans hF3.bel).grown t2.grown hT3.size (fun k e => by cases e; exact hOn.msB)
                    clear lk0 lk1
                    go_wp2
                    go_meet
                  all_goals exact ⟨_, _, hO4, hb5⟩
                · have hdE : drE L ys yg = 130 := by simp [drE, hlive]
                  rw [hdE] at kd
                  rw [sn_no (k := (ys, yg)) hlive] at hseen
                  have lk0 : (Instr.lookup 46 (.map (some S)) (.agg #[.int .i64 ys, .int .u64 yg]) false).run Try.prog W1.drew = .ok (.int .i64 2) W1.drew := by
                    have := (show HM W1.drew S kk _ from hS2).look ys yg
                    rw [hseen] at this
                    exact this
                  go_region_held3 (fun w' => w'.cell? ⟨q, 0, none⟩ = some (.int .i64 ys) ∧ w'.cell? ⟨q, 1, none⟩ = some (.int .u64 yg)) ((refine ⟨?_, ?_⟩ <;> repeat (with_reducible (first | assumption | apply cell_dr)))) (first
                    | (go_at_call 9; refine kd.mono ?_; rintro e v1 ⟨rfl, hT3, hF3⟩; have y2 := hF3.at (z := q) hy2 hm1.1 hm1.2; have s0 : v1.cell? ⟨q, 0, none⟩ = some (.int .i64 ys) := (by rw [cell_of y2]; rfl); have s1 : v1.cell? ⟨q, 1, none⟩ = some (.int .u64 yg) := (by rw [cell_of y2]; rfl); have hS3 : HM v1 S kk (seenF L A) := hS2.keep (hF3.keep _ hS2.lt hOn.ne1 hOn.ne2); have lk1 := hS3.look ys yg; rw [hseen] at lk1; simp only [Option.getD_some] at lk1))
                  all_goals go_upto_region 20 with fail
                  all_goals
                    obtain ⟨W2, p2, i2, t2⟩ := hS3.put' ys yg (.int .i64 2)
                    have hO3 := (show On W1.drew B (B + 2) B (B + 1) S N L A (.slice p A.length c) (i + 1) from hO2.below (Below.refl _ _).drew (Nat.le_refl _) (by omega)).fh hF3
                    have hO4 := hO2.dropped (x := (ys, yg)) hyA hT3 hO3.2 i2 t2
                    have hb5 : Below B w W2 := (hb2.drew.trans hF3.bel).grown t2.grown hT3.size (fun k e => by cases e; exact hOn.msB)
                    clear lk0 lk1
                    go_wp2
                    go_meet
                  all_goals exact ⟨_, _, hO4, hb5⟩
            case rest =>
              obtain ⟨N, L, hOn, hbl⟩ := hcut
              have hAl := hOn.len
              go_wp2
              go_loopw [12, 13] (fun n12 n13 wk => ∃ k : Nat, n13 = .int .i64 k ∧ n12 = .int .i64 (cntL L A k) ∧ k ≤ A.length ∧ Below wc.heap.size wc wk) (fun _ n13 _ => A.length - (valOf n13).toNat)
              case atStart => exact ⟨0, rfl, by simp [cntL], by omega, Below.refl _ _⟩
              case round =>
                obtain ⟨k, rfl, rfl, hk, hbk⟩ := hrel
                have hOk := hOn.below hbk (Nat.le_refl _) (by omega)
                by_cases hkl : k < A.length
                · have dK : decide ((k : Int) < A.length) = true := by simp; omega
                  have e8 : IntKind.i64.wrap ((k : Int) + 1) = (k : Int) + 1 := IntWalk.i64_in _ (by omega)
                  have hcl := cntL_le L A k
                  have e7 : IntKind.i64.wrap ((cntL L A k : Int) + 1) = (cntL L A k : Int) + 1 := IntWalk.i64_in _ (by omega)
                  obtain ⟨g, ⟨ys, yg⟩, hy, hgl, hgo, hc0, hc1, hai⟩ := idx34 hOk.row hkl (by omega)
                  simp only at hc0 hc1
                  have hyA : ((ys, yg) : HKey) ∈ A := List.mem_of_getElem? hy
                  obtain ⟨kk, hS⟩ := hOk.sm
                  have hseen := seen_at (L := L) hyA
                  have hcs := cntL_succ (L := L) hy
                  have kl := lives_any wr.drew _ _ _ _ _ _ _ hOk.tb.drew ys yg
                  by_cases hlive : L ys = some yg
                  · rw [show (L ys == some yg) = true by simp [hlive]] at kl
                    rw [show (L ys == some yg) = true by simp [hlive]] at hcs
                    rw [sn_yes (k := (ys, yg)) hlive] at hseen
                    have lk0 : (Instr.lookup 46 (.map (some S)) (.agg #[.int .i64 ys, .int .u64 yg]) false).run Try.prog wr.drew = .ok (.int .i64 1) wr.drew := by
                      have := (show HM wr.drew S kk _ from hS).look ys yg
                      rw [hseen] at this
                      exact this
                    go_upto_region 25 with fail
                    go_region_held3 (fun w' => w'.cell? ⟨g, k * 2, none⟩ = some (.int .i64 ys) ∧ w'.cell? ⟨g, k * 2 + 1, none⟩ = some (.int .u64 yg)) ((refine ⟨?_, ?_⟩ <;> repeat (with_reducible (first | assumption | apply cell_dr)))) (first
                      | (go_at_call 16; refine kl.mono ?_; rintro e v1 ⟨rfl, hb1⟩; have s0 : v1.cell? ⟨g, k * 2, none⟩ = some (.int .i64 ys) := (hb1.cell (p := ⟨g, k * 2, none⟩) hgl).trans hc0; have s1 : v1.cell? ⟨g, k * 2 + 1, none⟩ = some (.int .u64 yg) := (hb1.cell (p := ⟨g, k * 2 + 1, none⟩) hgl).trans hc1; have hS3 : HM v1 S kk (seenF L A) := hS.keep (hb1.block _ hS.lt); have lk1 := hS3.look ys yg; rw [hseen] at lk1; simp only [Option.getD_some] at lk1))
                    all_goals go_wp2
                    all_goals exact ⟨⟨k + 1, by simp, by rw [hcs]; simp, by omega, hbk.drew.trans (hb1.mono hbk.size)⟩, by simp [valOf]; omega⟩
                  · rw [show (L ys == some yg) = false by simpa using hlive] at kl
                    rw [show (L ys == some yg) = false by simpa using hlive] at hcs
                    rw [sn_no (k := (ys, yg)) hlive] at hseen
                    have lk0 : (Instr.lookup 46 (.map (some S)) (.agg #[.int .i64 ys, .int .u64 yg]) false).run Try.prog wr.drew = .ok (.int .i64 2) wr.drew := by
                      have := (show HM wr.drew S kk _ from hS).look ys yg
                      rw [hseen] at this
                      exact this
                    go_upto_region 25 with fail
                    go_region_held3 (fun w' => w'.cell? ⟨g, k * 2, none⟩ = some (.int .i64 ys) ∧ w'.cell? ⟨g, k * 2 + 1, none⟩ = some (.int .u64 yg)) ((refine ⟨?_, ?_⟩ <;> repeat (with_reducible (first | assumption | apply cell_dr)))) (first
                      | (go_at_call 16; refine kl.mono ?_; rintro e v1 ⟨rfl, hb1⟩; have s0 : v1.cell? ⟨g, k * 2, none⟩ = some (.int .i64 ys) := (hb1.cell (p := ⟨g, k * 2, none⟩) hgl).trans hc0; have s1 : v1.cell? ⟨g, k * 2 + 1, none⟩ = some (.int .u64 yg) := (hb1.cell (p := ⟨g, k * 2 + 1, none⟩) hgl).trans hc1; have hS3 : HM v1 S kk (seenF L A) := hS.keep (hb1.block _ hS.lt); have lk1 := hS3.look ys yg; rw [hseen] at lk1; simp only [Option.getD_some] at lk1))
                    all_goals go_wp2
                    all_goals exact ⟨⟨k + 1, by simp, by rw [hcs]; simp, by omega, hbk.drew.trans (hb1.mono hbk.size)⟩, by simp [valOf]; omega⟩
                · have dK : decide ((k : Int) < A.length) = false := by simp; omega
                  obtain rfl : k = A.length := by omega
                  have ka := all_any wr _ _ _ _ _ _ _ hOk.tb
                  go_wp2_with (go_at_call 15; refine ka.mono ?_; go_loud (rintro e v1 ⟨v, K, rfl, hup, hmem, hKn, hrow, hb1⟩; obtain ⟨kp, kc, rfl⟩ : ∃ p cap, v = .slice p K.length cap := own_shape hrow; have hEq : K.length = cntL L A A.length := (by have := live_count hOk.nd hOk.lv hup hmem; unfold cntL; rw [List.take_length]; exact this); have qd : ((K.length : Int) == (cntL L A A.length : Int)) = true := (by simp; omega); replace hEq : Hid _ := hEq))
                  refine ⟨⟨i + 1, N, L, A, p, c, by simp, rfl, by omega, hOk.below hb1 (Nat.le_refl _) (by omega), (hbl.trans (hbk.mono hOn.tb.size)).trans (hb1.mono hOk.tb.size)⟩, by simp [valOf]; omega⟩
      · have dA : decide ((i : Int) < L0.length) = false := by simp; omega
        have dB : decide ((i : Int) < L1.length) = true := by simp; omega
        go_upto_if 40 with fail
        go_cut [7] (fun n7 wx => ∃ (N : Int → Nat) (L : Int → Option Nat) (A : List HKey) (p : Option Addr) (c : Nat), n7 = .slice p A.length c ∧ On wx B (B + 2) B (B + 1) S N L A (.slice p A.length c) (i + 1) ∧ Below B w wx)
        case first =>
          go_wp2
          all_goals go_meet
          case rel => exact ⟨N, L, A, p, c, rfl, hOn.below (Below.refl _ _) (by omega) (by omega), hbl⟩
        case rest =>
          obtain ⟨N, L, A, p, c, rfl, hOn, hbl⟩ := hcut
          obtain ⟨wx0, hwx⟩ : ∃ x, x = wc := ⟨wc, rfl⟩
          subst hwx
          have hAl := hOn.len
          go_upto_region 16 with fail
          go_cut [81] (fun n81 wx => n81 = .bool (decide (i < L1.length ∧ A.length ≠ 0)) ∧ wx = wx0)
          case first =>
            by_cases h1 : i < L1.length
            · have dB2 : True := trivial
              by_cases hA : A.length = 0
              · have dC : decide ((0 : Int) < A.length) = false := decide_eq_false (by omega)
                go_wp2
                all_goals go_meet
                case rel => exact ⟨by rw [decide_eq_false (fun e : i < L1.length ∧ A.length ≠ 0 => e.2 hA)], rfl⟩
              · have dC : decide ((0 : Int) < A.length) = true := decide_eq_true (by omega)
                go_wp2
                all_goals go_meet
                case rel => exact ⟨congrArg Value.bool ((decide_eq_true (by omega)).trans (decide_eq_true (show i < L1.length ∧ A.length ≠ 0 from ⟨h1, hA⟩)).symm), rfl⟩
            · omega
          case rest =>
            obtain ⟨rfl, hw⟩ := hcut
            subst hw
            generalize hq : decide (i < L1.length ∧ A.length ≠ 0) = q81
            replace hq : Hid _ := hq
            go_upto_if 81 with fail
            go_cut [] (fun wx => ∃ (N : Int → Nat) (L : Int → Option Nat), On wx B (B + 2) B (B + 1) S N L A (.slice p A.length c) (i + 1) ∧ Below B w wx)
            case first =>
              cases q81 with
              | false =>
                go_wp2
                all_goals go_meet
                case rel => exact ⟨N, L, hOn, hbl⟩
              | true =>
                obtain ⟨h1, hA⟩ := of_decide_eq_true hq.out
                obtain ⟨xb, xo, x, hxc, ⟨hx0, hx1⟩, hxb, hxi⟩ := idx8 hR1.out h1 (by omega)
                have r0 := (hbl.cell (p := ⟨xb, xo, none⟩) (by have := hB0.out; simp; omega)).trans hxc
                have hxi' := hxi c1
                obtain ⟨j, hj, hrm⟩ : ∃ j : Nat, j < A.length ∧ x % (A.length : Int) = (j : Int) := ⟨(x % (A.length : Int)).toNat, by have := Int.emod_lt_of_pos x (show (0 : Int) < A.length by omega); have := Int.emod_nonneg x (show (A.length : Int) ≠ 0 by omega); omega, (Int.toNat_of_nonneg (Int.emod_nonneg x (show (A.length : Int) ≠ 0 by omega))).symm⟩
                obtain ⟨g, ⟨ys, yg⟩, hy, hgl, hgo, hc0, hc1, hai⟩ := idx34 hOn.row hj (by omega)
                simp only at hc0 hc1
                rw [← hrm] at hai
                replace hrm : Hid _ := hrm
                have hyA : ((ys, yg) : HKey) ∈ A := List.mem_of_getElem? hy
                obtain ⟨kk, hS⟩ := hOn.sm
                have hseen := seen_at (L := L) hyA
                go_upto_region 18 with fail
                have hT2 := hOn.tb.alloc (.cells #[.int .i64 ys, .int .u64 yg] 34)
                have hS2 := hS.alloc (.cells #[.int .i64 ys, .int .u64 yg] 34)
                have hr2 := hOn.row.alloc (.cells #[.int .i64 ys, .int .u64 yg] 34)
                have hO2 := hOn.below ((Below.refl _ _).alloc (Nat.le_refl _) (.cells #[.int .i64 ys, .int .u64 yg] 34)) (Nat.le_refl _) (by omega)
                have hy2 := heap_alloc_new wc (.cells #[.int .i64 ys, .int .u64 yg] 34)
                have hb2 := hbl.alloc hOn.tb.size (.cells #[.int .i64 ys, .int .u64 yg] 34)
                clear r0 hxi hxi' hrm hc0 hc1 hai hS
                generalize wc.alloc (.cells #[.int .i64 ys, .int .u64 yg] 34) = W1 at hT2 hS2 hr2 hO2 hy2 hb2 ⊢
                generalize wc.heap.size = q at hy2 ⊢
                have y0 := cell_of hy2 0
                have y1 := cell_of hy2 1
                simp at y0 y1
                have kd := drop_any W1.drew _ _ _ _ _ _ _ hT2.drew ys yg
                obtain ⟨hm1, hm2⟩ : (q ≠ B ∧ q ≠ B + 1) ∧ q ≠ S := by
                  have := hT2.notcells hy2
                  refine ⟨this.2, ?_⟩
                  rintro rfl
                  exact hS2.notcells hy2
                by_cases hlive : L ys = some yg
                · have hdE : drE L ys yg = 0 := by simp [drE, hlive]
                  rw [hdE] at kd
                  rw [sn_yes (k := (ys, yg)) hlive] at hseen
                  have lk0 : (Instr.lookup 46 (.map (some S)) (.agg #[.int .i64 ys, .int .u64 yg]) false).run Try.prog W1.drew = .ok (.int .i64 1) W1.drew := by
                    have := (show HM W1.drew S kk _ from hS2).look ys yg
                    rw [hseen] at this
                    exact this
                  go_region_held3 (fun w' => w'.cell? ⟨q, 0, none⟩ = some (.int .i64 ys) ∧ w'.cell? ⟨q, 1, none⟩ = some (.int .u64 yg)) ((refine ⟨?_, ?_⟩ <;> repeat (with_reducible (first | assumption | apply cell_dr)))) (first
                    | (go_at_call 9; refine kd.mono ?_; rintro e v1 ⟨rfl, hT3, hF3⟩; have y2 := hF3.at (z := q) hy2 hm1.1 hm1.2; have s0 : v1.cell? ⟨q, 0, none⟩ = some (.int .i64 ys) := (by rw [cell_of y2]; rfl); have s1 : v1.cell? ⟨q, 1, none⟩ = some (.int .u64 yg) := (by rw [cell_of y2]; rfl); have hS3 : HM v1 S kk (seenF L A) := hS2.keep (hF3.keep _ hS2.lt hOn.ne1 hOn.ne2); have lk1 := hS3.look ys yg; rw [hseen] at lk1; simp only [Option.getD_some] at lk1))
                  all_goals go_upto_region 20 with fail
                  all_goals
                    obtain ⟨W2, p2, i2, t2⟩ := hS3.put' ys yg (.int .i64 2)
                    have hO3 := (show On W1.drew B (B + 2) B (B + 1) S N L A (.slice p A.length c) (i + 1) from hO2.below (Below.refl _ _).drew (Nat.le_refl _) (by omega)).fh hF3
                    have hO4 := hO2.dropped (x := (ys, yg)) hyA hT3 hO3.2 i2 t2
                    have hb5 : Below B w W2 := (hb2.drew.trans hF3.bel).grown t2.grown hT3.size (fun k e => by cases e; exact hOn.msB)
                    clear lk0 lk1
                    go_wp2
                    go_meet
                  all_goals exact ⟨_, _, hO4, hb5⟩
                · have hdE : drE L ys yg = 130 := by simp [drE, hlive]
                  rw [hdE] at kd
                  rw [sn_no (k := (ys, yg)) hlive] at hseen
                  have lk0 : (Instr.lookup 46 (.map (some S)) (.agg #[.int .i64 ys, .int .u64 yg]) false).run Try.prog W1.drew = .ok (.int .i64 2) W1.drew := by
                    have := (show HM W1.drew S kk _ from hS2).look ys yg
                    rw [hseen] at this
                    exact this
                  go_region_held3 (fun w' => w'.cell? ⟨q, 0, none⟩ = some (.int .i64 ys) ∧ w'.cell? ⟨q, 1, none⟩ = some (.int .u64 yg)) ((refine ⟨?_, ?_⟩ <;> repeat (with_reducible (first | assumption | apply cell_dr)))) (first
                    | (go_at_call 9; refine kd.mono ?_; rintro e v1 ⟨rfl, hT3, hF3⟩; have y2 := hF3.at (z := q) hy2 hm1.1 hm1.2; have s0 : v1.cell? ⟨q, 0, none⟩ = some (.int .i64 ys) := (by rw [cell_of y2]; rfl); have s1 : v1.cell? ⟨q, 1, none⟩ = some (.int .u64 yg) := (by rw [cell_of y2]; rfl); have hS3 : HM v1 S kk (seenF L A) := hS2.keep (hF3.keep _ hS2.lt hOn.ne1 hOn.ne2); have lk1 := hS3.look ys yg; rw [hseen] at lk1; simp only [Option.getD_some] at lk1))
                  all_goals go_upto_region 20 with fail
                  all_goals
                    obtain ⟨W2, p2, i2, t2⟩ := hS3.put' ys yg (.int .i64 2)
                    have hO3 := (show On W1.drew B (B + 2) B (B + 1) S N L A (.slice p A.length c) (i + 1) from hO2.below (Below.refl _ _).drew (Nat.le_refl _) (by omega)).fh hF3
                    have hO4 := hO2.dropped (x := (ys, yg)) hyA hT3 hO3.2 i2 t2
                    have hb5 : Below B w W2 := (hb2.drew.trans hF3.bel).grown t2.grown hT3.size (fun k e => by cases e; exact hOn.msB)
                    clear lk0 lk1
                    go_wp2
                    go_meet
                  all_goals exact ⟨_, _, hO4, hb5⟩
            case rest =>
              obtain ⟨N, L, hOn, hbl⟩ := hcut
              have hAl := hOn.len
              go_wp2
              go_loopw [12, 13] (fun n12 n13 wk => ∃ k : Nat, n13 = .int .i64 k ∧ n12 = .int .i64 (cntL L A k) ∧ k ≤ A.length ∧ Below wc.heap.size wc wk) (fun _ n13 _ => A.length - (valOf n13).toNat)
              case atStart => exact ⟨0, rfl, by simp [cntL], by omega, Below.refl _ _⟩
              case round =>
                obtain ⟨k, rfl, rfl, hk, hbk⟩ := hrel
                have hOk := hOn.below hbk (Nat.le_refl _) (by omega)
                by_cases hkl : k < A.length
                · have dK : decide ((k : Int) < A.length) = true := by simp; omega
                  have e8 : IntKind.i64.wrap ((k : Int) + 1) = (k : Int) + 1 := IntWalk.i64_in _ (by omega)
                  have hcl := cntL_le L A k
                  have e7 : IntKind.i64.wrap ((cntL L A k : Int) + 1) = (cntL L A k : Int) + 1 := IntWalk.i64_in _ (by omega)
                  obtain ⟨g, ⟨ys, yg⟩, hy, hgl, hgo, hc0, hc1, hai⟩ := idx34 hOk.row hkl (by omega)
                  simp only at hc0 hc1
                  have hyA : ((ys, yg) : HKey) ∈ A := List.mem_of_getElem? hy
                  obtain ⟨kk, hS⟩ := hOk.sm
                  have hseen := seen_at (L := L) hyA
                  have hcs := cntL_succ (L := L) hy
                  have kl := lives_any wr.drew _ _ _ _ _ _ _ hOk.tb.drew ys yg
                  by_cases hlive : L ys = some yg
                  · rw [show (L ys == some yg) = true by simp [hlive]] at kl
                    rw [show (L ys == some yg) = true by simp [hlive]] at hcs
                    rw [sn_yes (k := (ys, yg)) hlive] at hseen
                    have lk0 : (Instr.lookup 46 (.map (some S)) (.agg #[.int .i64 ys, .int .u64 yg]) false).run Try.prog wr.drew = .ok (.int .i64 1) wr.drew := by
                      have := (show HM wr.drew S kk _ from hS).look ys yg
                      rw [hseen] at this
                      exact this
                    go_upto_region 25 with fail
                    go_region_held3 (fun w' => w'.cell? ⟨g, k * 2, none⟩ = some (.int .i64 ys) ∧ w'.cell? ⟨g, k * 2 + 1, none⟩ = some (.int .u64 yg)) ((refine ⟨?_, ?_⟩ <;> repeat (with_reducible (first | assumption | apply cell_dr)))) (first
                      | (go_at_call 16; refine kl.mono ?_; rintro e v1 ⟨rfl, hb1⟩; have s0 : v1.cell? ⟨g, k * 2, none⟩ = some (.int .i64 ys) := (hb1.cell (p := ⟨g, k * 2, none⟩) hgl).trans hc0; have s1 : v1.cell? ⟨g, k * 2 + 1, none⟩ = some (.int .u64 yg) := (hb1.cell (p := ⟨g, k * 2 + 1, none⟩) hgl).trans hc1; have hS3 : HM v1 S kk (seenF L A) := hS.keep (hb1.block _ hS.lt); have lk1 := hS3.look ys yg; rw [hseen] at lk1; simp only [Option.getD_some] at lk1))
                    all_goals go_wp2
                    all_goals exact ⟨⟨k + 1, by simp, by rw [hcs]; simp, by omega, hbk.drew.trans (hb1.mono hbk.size)⟩, by simp [valOf]; omega⟩
                  · rw [show (L ys == some yg) = false by simpa using hlive] at kl
                    rw [show (L ys == some yg) = false by simpa using hlive] at hcs
                    rw [sn_no (k := (ys, yg)) hlive] at hseen
                    have lk0 : (Instr.lookup 46 (.map (some S)) (.agg #[.int .i64 ys, .int .u64 yg]) false).run Try.prog wr.drew = .ok (.int .i64 2) wr.drew := by
                      have := (show HM wr.drew S kk _ from hS).look ys yg
                      rw [hseen] at this
                      exact this
                    go_upto_region 25 with fail
                    go_region_held3 (fun w' => w'.cell? ⟨g, k * 2, none⟩ = some (.int .i64 ys) ∧ w'.cell? ⟨g, k * 2 + 1, none⟩ = some (.int .u64 yg)) ((refine ⟨?_, ?_⟩ <;> repeat (with_reducible (first | assumption | apply cell_dr)))) (first
                      | (go_at_call 16; refine kl.mono ?_; rintro e v1 ⟨rfl, hb1⟩; have s0 : v1.cell? ⟨g, k * 2, none⟩ = some (.int .i64 ys) := (hb1.cell (p := ⟨g, k * 2, none⟩) hgl).trans hc0; have s1 : v1.cell? ⟨g, k * 2 + 1, none⟩ = some (.int .u64 yg) := (hb1.cell (p := ⟨g, k * 2 + 1, none⟩) hgl).trans hc1; have hS3 : HM v1 S kk (seenF L A) := hS.keep (hb1.block _ hS.lt); have lk1 := hS3.look ys yg; rw [hseen] at lk1; simp only [Option.getD_some] at lk1))
                    all_goals go_wp2
                    all_goals exact ⟨⟨k + 1, by simp, by rw [hcs]; simp, by omega, hbk.drew.trans (hb1.mono hbk.size)⟩, by simp [valOf]; omega⟩
                · have dK : decide ((k : Int) < A.length) = false := by simp; omega
                  obtain rfl : k = A.length := by omega
                  have ka := all_any wr _ _ _ _ _ _ _ hOk.tb
                  go_wp2_with (go_at_call 15; refine ka.mono ?_; go_loud (rintro e v1 ⟨v, K, rfl, hup, hmem, hKn, hrow, hb1⟩; obtain ⟨kp, kc, rfl⟩ : ∃ p cap, v = .slice p K.length cap := own_shape hrow; have hEq : K.length = cntL L A A.length := (by have := live_count hOk.nd hOk.lv hup hmem; unfold cntL; rw [List.take_length]; exact this); have qd : ((K.length : Int) == (cntL L A A.length : Int)) = true := (by simp; omega); replace hEq : Hid _ := hEq))
                  refine ⟨⟨i + 1, N, L, A, p, c, by simp, rfl, by omega, hOk.below hb1 (Nat.le_refl _) (by omega), (hbl.trans (hbk.mono hOn.tb.size)).trans (hb1.mono hOk.tb.size)⟩, by simp [valOf]; omega⟩
    · have dA : decide ((i : Int) < L0.length) = false := by simp; omega
      have dB : decide ((i : Int) < L1.length) = false := by simp; omega
      go_wp2_with (go_at_call 7; refine (kw _).mono ?_; rintro e w3 ⟨rfl, hb⟩)
      all_goals go_returns
      have hB1 := hB0.out
      have h1 := hbl.size
      rw [hB1]
      exact ⟨rfl, hbl.trans (hb.mono (by omega))⟩

theorem readable : ∀ t ∈ Try.f4.params.toList, Try.prog.readableRec t = true ∧ t < Try.prog.types.size := by
  rw [Try.params4]
  intro t ht
  simp at ht
  rcases ht with rfl | rfl
  all_goals exact ⟨by kernel_rfl, of_decide_eq_true (by kernel_rfl)⟩
set_option maxRecDepth 100000 in
theorem lifted (os : Os) (started : os.Started) (H : Type) (enc : TypeId × Value → H) :
    ReturnsInHanded {} Try.checked os 4 .any (Rows.handleOnceSpec.pre6 enc Try.prog Try.f4 Rows.handleOnceRow.domain false) (Rows.handleOnceSpec.post enc Try.prog Try.f4 false true false false) := by
  refine returnsInHanded_of_change (C := Try.checked) own started (by kernel_rfl) Try.func4
    (ChangeSpec.witness6 (enc := enc) (C := Try.checked) false ⟨#[], #[.slice none 0 0, .slice none 0 0], []⟩ 8 (by kernel_rfl) (by kernel_rfl) (by kernel_rfl) (by kernel_rfl)) ?_
  intro W base args ds gs before hval0 hW hcnd _
  have hval : ∀ (j : Nat) t v, Try.f4.params[j]? = some t → args[j]? = some v → Value.okWide Try.prog W .any base t v := hval0
  have hW' := hW
  obtain ⟨p, q, hA0, hV, rfl, hfz, hnd⟩ := hW
  have hA : DataW.TrodAll enc Try.prog W 0 (fun _ => true) true Try.f4.params.toList args.toList ds p := hA0
  rw [Try.params4] at hA hval
  obtain ⟨v0, vs0, d0, ds0, p0, q0, hargs, rfl, rfl, h0, r0⟩ := trodAll_cons hA
  obtain ⟨v1, vs1, d1, ds1, p1, q1, rfl, rfl, rfl, h1, r1⟩ := trodAll_cons r0
  obtain ⟨rfl, rfl, rfl⟩ := trodAll_nil r1
  obtain rfl : args = #[v0, v1] := by cases args; simp_all
  obtain ⟨rfl, rfl⟩ := trodVars_none hV
  obtain ⟨p0, L0, c0, rfl, hL0⟩ := open_row8 (hval 0 45 v0 rfl rfl) h0
  obtain ⟨p1, L1, c1, rfl, hL1⟩ := open_row8 (hval 1 45 v1 rfl rfl) h1
  clear hA0 hval0
  refine (walk p0 L0 c0 p1 L1 c1 W hL0 hL1).mono fun e W' ⟨he, hg⟩ => ?_
  subst he
  exact ⟨_, rfl, post_bel readable hW' rfl (fun _ _ _ => (trodAll_cons_mk (shut_bool Try.underlying4 _) trodAll_mk0)) rfl (fun _ => rfl)
    hg (ok_one (by kernel_rfl) rfl (okWide_bool_mk Try.underlying4 _))⟩

theorem over : Rows.handleOnceRow.holds Try.pinned (OpenSpec.ofChange Rows.handleOnceSpec) :=
  OpenClaim.holds_of_wide 4 Try.f4 rfl rfl rfl rfl rfl rfl rfl ⟨rfl, rfl, rfl, rfl, rfl⟩ rfl rfl rfl rfl rfl (by kernel_rfl) Try.func4 (by kernel_rfl)
    (of_decide_eq_true (by kernel_rfl)) (by unfold Func.isWrapper; first | (rw [if_pos (by decide +kernel)]; kernel_rfl) | (rw [if_neg (by decide +kernel)]; exact ⟨rfl, rfl⟩))
    (fun os started H enc _ => lifted os started H enc)

theorem proved : Rows.HandleOnceSaid :=
  over
end Go.Proofs.Ytilohnmaaofipaa.handleOnce
namespace Go.Proofs.Ytilohnmaaofipaa
theorem handleOnce_holds : Rows.HandleOnceSaid :=
  handleOnce.proved
#print axioms handleOnce_holds
end Go.Proofs.Ytilohnmaaofipaa
