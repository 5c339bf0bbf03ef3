/- For every text, every two places and every two numbers, and all sizes: two numbers that are set where they do not meet may be set in either order, and of two at one place the later one counts: the law WordApart returns true and changes none of its arguments. No condition. -/
import Derived.Test.YteaaocinkpipaaaParts
import Derived.Test.YteaaocinkpipaaaApart
import Derived.BigQuiet
import Derived.WalkKit
import Derived.ProofKit
import Derived.OpenShut
import Derived.ShutString
namespace Go.Proofs.Yteaaocinkpipaaa.wordApart
open Go.ChangeShapes Go.WideShapes Go.ChangeAt Go.RowKit
open Go.ChangeMaps (open_string shut_string)
set_option linter.unusedVariables false      -- a walk need not use every 'w<i>' (that an integer argument fits its kind)

theorem own : ownKnob Try.prog.godebug = none := by kernel_rfl

/-! ### STEP 1: THE WALK: the Go text returns true. 'Grown w w'': the world has at most new blocks (Derived/RowKit3.lean). Part the cases AHEAD of 'go_enter' where a test parts the walk; take each callee by a contract of your own. -/
set_option maxRecDepth 100000 in
set_option maxHeartbeats 4000000 in
theorem walk (a0 : ByteArray) (a1 : Int) (a2 : Int) (a3 : Int) (a4 : Int) (w0 : a0.size ≤ maxLen) (w1 : (Lit.int .i64 a1).wf = true) (w2 : (Lit.int .i64 a2).wf = true) (w3 : (Lit.int .u64 a3).wf = true) (w4 : (Lit.int .u64 a4).wf = true) (w : World) :
    Calls Try.prog 7 #[.string a0, .int .i64 a1, .int .i64 a2, .int .u64 a3, .int .u64 a4] w fun e w' => e = .returned (.bool true) ∧ Grown w w' := by
  have b1 := bd_i64 w1
  have b2 := bd_i64 w2
  obtain ⟨b3, b3'⟩ := bd_u64 w3
  obtain ⟨b4, b4'⟩ := bd_u64 w4
  have b0 : a0.size ≤ 2 ^ 63 - 1 := w0
  clear w0 w1 w2 w3 w4
  have HG : Gr w w := Gr.refl w
  by_cases hl : 4096 < a0.size
  · go_enter Try.func7, Try.ntmps7
    go_wp2_with (first
      | (go_at_call 8; refine (alive_any _).mono ?_; rintro e w' ⟨rfl, hg⟩; replace HG := HG.trans hg; clear hg))
    go_ret
    exact ⟨rfl, HG.grown⟩
  have hd : decide (4096 < (a0.size : Int)) = false := by simp; omega
  clear HG
  go_enter Try.func7, Try.ntmps7
  go_wp2_with (first
    | (go_at_call 19; refine (sizes_any _).mono ?_; rintro e w' ⟨rfl, rfl⟩))
  go_loopw [12] (fun i wr => ∃ k : Nat, k ≤ 4 ∧ i = .int .i64 k ∧ wr.heap[w.heap.size]? = some (.cells szs 3) ∧ Gr w wr) (fun i _ => 4 - (intOf i).toNat)
  case atStart => exact ⟨0, by omega, rfl, by show (w.heap.push _)[w.heap.size]? = _; simp [szs], ⟨by go_grown, by go_grown⟩⟩
  case round =>
    obtain ⟨i, hi, rfl, hb, hgr⟩ := hrel
    by_cases hlt : i < 4
    · have HB : Hid (wr.heap[w.heap.size]? = some (.cells szs 3)) := hb
      clear hb
      have hdi : decide ((i : Int) < 4) = true := by simp; omega
      go_wp2_with fail
      go_loopw [13] (fun j wx => ∃ k : Nat, k ≤ 4 ∧ j = .int .i64 k ∧ Hid (wx.heap[w.heap.size]? = some (.cells szs 3)) ∧ Gr w wx) (fun j _ => 4 - (intOf j).toNat)
      case atStart => exact ⟨0, by omega, rfl, HB, hgr⟩
      case round =>
        clear HB hgr
        obtain ⟨j, hj, rfl, HB, hgr⟩ := hrel
        by_cases hjt : j < 4
        · have hsiz : w.heap.size < wr.heap.size := by
            rcases Nat.lt_or_ge w.heap.size wr.heap.size with h | h
            · exact h
            · have := HB.out; rw [Array.getElem?_eq_none h] at this; cases this
          obtain ⟨n, hn, hnz⟩ : ∃ n : Nat, szN i = n ∧ isz n = true := by
            have := isz_true (szN_ok i)
            exact ⟨(szN i).toNat, by omega, by rw [show (((szN i).toNat : Nat) : Int) = szN i by omega]; exact szN_ok i⟩
          obtain ⟨m, hm, hmz⟩ : ∃ m : Nat, szN j = m ∧ isz m = true := by
            have := isz_true (szN_ok j)
            exact ⟨(szN j).toNat, by omega, by rw [show (((szN j).toNat : Nat) : Int) = szN j by omega]; exact szN_ok j⟩
          have hc1 : wr.cell? ⟨w.heap.size, i, none⟩ = some (.int .i64 n) := by rw [sz_cell HB.out hlt, hn]
          have hc2 : wr.cell? ⟨w.heap.size, j, none⟩ = some (.int .i64 m) := by rw [sz_cell HB.out hjt, hm]
          clear hn hm
          have hn8 : 1 ≤ n ∧ n ≤ 8 := by have := isz_true hnz; omega
          have hm8 : 1 ≤ m ∧ m ≤ 8 := by have := isz_true hmz; omega
          by_cases he : errOf a0.size a1 n = 0
          · by_cases hf : errOf a0.size a2 m = 0
            · obtain ⟨_, g2, g3⟩ := errOf_zero he
              obtain ⟨a, rfl⟩ := Int.eq_ofNat_of_zero_le g2
              obtain ⟨_, g4, g5⟩ := errOf_zero hf
              obtain ⟨b, rfl⟩ := Int.eq_ofNat_of_zero_le g4
              have hfa : a + n ≤ a0.size := by omega
              have hfb : b + m ≤ a0.size := by omega
              have z1 : (setB a0 a a3 n).size ≤ 2 ^ 63 - 1 := by rw [size_setB a0 a n a3 hnz hfa]; exact b0
              have z2 : (setB a0 b a4 m).size ≤ 2 ^ 63 - 1 := by rw [size_setB a0 b m a4 hmz hfb]; exact b0
              go_wp2_with (first | (go_at_call 11; refine (set_any _ _ _ _ (by assumption) (by assumption) (by assumption) (by assumption) _).mono ?_; rintro e w' ⟨rfl, hg⟩; replace hgr := hgr.trans hg; replace HB : Hid _ := (hg.below.block _ hsiz).trans HB; replace hc1 := (hg.below.cell hsiz).trans hc1; replace hc2 := (hg.below.cell hsiz).trans hc2; replace hsiz := Nat.lt_of_lt_of_le hsiz hg.below.size; clear hg))
              by_cases p1 : a + n ≤ b
              · have hCD := set_apart a0 a b n m a3 a4 hnz hmz hfa hfb (Or.inl p1)
                have d1 : decide ((a : Int) ≤ (b : Int) - (n : Int)) = true := by simp; omega
                have d4 : ((a : Int) == (b : Int)) = false := by rw [beq_eq_false_iff_ne]; omega
                go_quiet (fail)
                go_wp2
                go_roundw
                case rel => exact ⟨j + 1, by omega, by go_num, HB, hgr.trans (gr_drewN _ _)⟩
                case measure => simp [intOf]; omega
              by_cases p2 : b + m ≤ a
              · have hCD := set_apart a0 a b n m a3 a4 hnz hmz hfa hfb (Or.inr p2)
                have d1 : decide ((a : Int) ≤ (b : Int) - (n : Int)) = false := by simp; omega
                have d2 : decide ((b : Int) ≤ (a : Int) - (m : Int)) = true := by simp; omega
                have d4 : ((a : Int) == (b : Int)) = false := by rw [beq_eq_false_iff_ne]; omega
                go_quiet (fail)
                go_wp2
                go_roundw
                case rel => exact ⟨j + 1, by omega, by go_num, HB, hgr.trans (gr_drewN _ _)⟩
                case measure => simp [intOf]; omega
              have d1 : decide ((a : Int) ≤ (b : Int) - (n : Int)) = false := by simp; omega
              have d2 : decide ((b : Int) ≤ (a : Int) - (m : Int)) = false := by simp; omega
              by_cases p3 : a = b
              · subst p3
                by_cases p4 : n = m
                · subst p4
                  have hCB := set_again a0 a n a3 a4 hnz hfa
                  go_quiet (fail)
                  go_wp2
                  go_roundw
                  case rel => exact ⟨j + 1, by omega, by go_num, HB, hgr.trans (gr_drewN _ _)⟩
                  case measure => simp [intOf]; omega
                · have d5 : ((n : Int) == (m : Int)) = false := by rw [beq_eq_false_iff_ne]; omega
                  go_quiet (fail)
                  go_wp2
                  go_roundw
                  case rel => exact ⟨j + 1, by omega, by go_num, HB, hgr.trans (gr_drewN _ _)⟩
                  case measure => simp [intOf]; omega
              · have d4 : ((a : Int) == (b : Int)) = false := by rw [beq_eq_false_iff_ne]; omega
                go_quiet (fail)
                go_wp2
                go_roundw
                case rel => exact ⟨j + 1, by omega, by go_num, HB, hgr.trans (gr_drewN _ _)⟩
                case measure => simp [intOf]; omega
            · have hb : (errOf a0.size a2 m != 0) = true := by simpa using hf
              clear hf
              go_wp2_with (first | (go_at_call 11; refine (set_any _ _ _ _ (by assumption) (by assumption) (by assumption) (by assumption) _).mono ?_; rintro e w' ⟨rfl, hg⟩; replace hgr := hgr.trans hg; replace HB : Hid _ := (hg.below.block _ hsiz).trans HB; replace hc1 := (hg.below.cell hsiz).trans hc1; replace hc2 := (hg.below.cell hsiz).trans hc2; replace hsiz := Nat.lt_of_lt_of_le hsiz hg.below.size; clear hg))
              go_roundw
              case rel => exact ⟨j + 1, by omega, by go_num, HB, hgr⟩
              case measure => simp [intOf]; omega
          · have hb : (errOf a0.size a1 n != 0) = true := by simpa using he
            clear he
            go_wp2_with (first | (go_at_call 11; refine (set_any _ _ _ _ (by assumption) (by assumption) (by assumption) (by assumption) _).mono ?_; rintro e w' ⟨rfl, hg⟩; replace hgr := hgr.trans hg; replace HB : Hid _ := (hg.below.block _ hsiz).trans HB; replace hc1 := (hg.below.cell hsiz).trans hc1; replace hc2 := (hg.below.cell hsiz).trans hc2; replace hsiz := Nat.lt_of_lt_of_le hsiz hg.below.size; clear hg))
            go_roundw
            case rel => exact ⟨j + 1, by omega, by go_num, HB, hgr⟩
            case measure => simp [intOf]; omega
        · obtain rfl : j = 4 := by omega
          go_wp2_with fail
          go_roundw
          case rel => exact ⟨i + 1, by omega, by go_num, HB, hgr⟩
          case measure => simp [intOf]; omega
    · obtain rfl : i = 4 := by omega
      go_wp2_with (first
        | (go_at_call 8; refine (alive_any _).mono ?_; rintro e w' ⟨rfl, hg⟩; replace hgr := hgr.trans hg; clear hg))
      go_ret
      exact ⟨rfl, hgr.grown⟩

/-! ### THE ROW's STEP: WRITTEN OUT: LEAVE IT -/
set_option maxRecDepth 100000 in
theorem lifted (os : Os) (started : os.Started) (H : Type) (enc : TypeId × Value → H) :
    ReturnsInHanded {} Try.checked os 7 .any (Rows.wordApartSpec.pre6 enc Try.prog Try.f7 Rows.wordApartRow.domain false) (Rows.wordApartSpec.post enc Try.prog Try.f7 false true false false) := by
  refine returnsInHanded_of_change (C := Try.checked) own started (by kernel_rfl) Try.func7
    (ChangeSpec.witness6 (enc := enc) (C := Try.checked) false ⟨#[], #[.string ByteArray.empty, .int .i64 0, .int .i64 0, .int .u64 0, .int .u64 0], []⟩ 8 (by kernel_rfl) (by kernel_rfl) (by kernel_rfl) (by kernel_rfl)) ?_
  intro W base args ds gs before hval0 hW hcnd _
  have hval : ∀ (j : Nat) t v, Try.f7.params[j]? = some t → args[j]? = some v → Value.okWide Try.prog W .any base t v := hval0
  have hW' := hW
  obtain ⟨p, q, hA0, hV, rfl, hfz, hnd⟩ := hW
  have hA : DataW.TrodAll enc Try.prog W 0 (fun _ => true) true Try.f7.params.toList args.toList ds p := hA0
  rw [Try.params7] at hA hval
  obtain ⟨v0, vs0, d0, ds0, p0, q0, hargs, rfl, rfl, h0, r0⟩ := trodAll_cons hA
  obtain ⟨v1, vs1, d1, ds1, p1, q1, rfl, rfl, rfl, h1, r1⟩ := trodAll_cons r0
  obtain ⟨v2, vs2, d2, ds2, p2, q2, rfl, rfl, rfl, h2, r2⟩ := trodAll_cons r1
  obtain ⟨v3, vs3, d3, ds3, p3, q3, rfl, rfl, rfl, h3, r3⟩ := trodAll_cons r2
  obtain ⟨v4, vs4, d4, ds4, p4, q4, rfl, rfl, rfl, h4, r4⟩ := trodAll_cons r3
  obtain ⟨rfl, rfl, rfl⟩ := trodAll_nil r4
  obtain rfl : args = #[v0, v1, v2, v3, v4] := by cases args; simp_all
  obtain ⟨rfl, rfl⟩ := trodVars_none hV
  obtain ⟨a0, rfl, rfl, rfl, w0⟩ := open_string Try.underlying9 (hval 0 9 v0 rfl rfl) h0
  obtain ⟨a1, rfl, rfl, rfl, w1⟩ := open_int Try.underlying3 (hval 1 3 v1 rfl rfl) h1
  obtain ⟨a2, rfl, rfl, rfl, w2⟩ := open_int Try.underlying3 (hval 2 3 v2 rfl rfl) h2
  obtain ⟨a3, rfl, rfl, rfl, w3⟩ := open_int Try.underlying23 (hval 3 23 v3 rfl rfl) h3
  obtain ⟨a4, rfl, rfl, rfl, w4⟩ := open_int Try.underlying23 (hval 4 23 v4 rfl rfl) h4
  clear hA0 hval0
  simp only [List.append_nil] at hW'
  refine (walk a0 a1 a2 a3 a4 w0 w1 w2 w3 w4 W).mono fun e W' ⟨he, hg⟩ => ?_
  subst he
  exact ⟨_, rfl, post_of_same (pa := []) (pv := []) hW' (fun _ _ _ => (trodAll_cons_mk (shut_bool Try.underlying4 _) trodAll_mk0)) (fun sp _ => (trodAll_cons_mk (shut_string Try.underlying9 w0) (trodAll_cons_mk (shut_int Try.underlying3 w1) (trodAll_cons_mk (shut_int Try.underlying3 w2) (trodAll_cons_mk (shut_int Try.underlying23 w3) (trodAll_cons_mk (shut_int Try.underlying23 w4) trodAll_mk0)))))) (fun _ _ => rfl) rfl
    (hg.frame _) hg.2.1 (ok_one (by kernel_rfl) rfl (okWide_bool_mk Try.underlying4 _))⟩

theorem over : Rows.wordApartRow.holds Try.pinned (OpenSpec.ofChange Rows.wordApartSpec) :=
  OpenClaim.holds_of_wide 7 Try.f7 rfl rfl rfl rfl rfl rfl rfl ⟨rfl, rfl, rfl, rfl, rfl⟩ rfl rfl rfl rfl rfl (by kernel_rfl) Try.func7 (by kernel_rfl)
    (of_decide_eq_true (by kernel_rfl)) (by unfold Func.isWrapper; first | (rw [if_pos (by decide +kernel)]; kernel_rfl) | (rw [if_neg (by decide +kernel)]; exact ⟨rfl, rfl⟩))
    (fun os started H enc _ => lifted os started H enc)

theorem proved : Rows.WordApartSaid :=
  over
end Go.Proofs.Yteaaocinkpipaaa.wordApart
namespace Go.Proofs.Yteaaocinkpipaaa
theorem wordApart_holds : Rows.WordApartSaid :=
  wordApart.proved
#print axioms wordApart_holds
end Go.Proofs.Yteaaocinkpipaaa
