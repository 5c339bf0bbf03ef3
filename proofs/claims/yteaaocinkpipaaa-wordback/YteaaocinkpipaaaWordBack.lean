/- For every text, every place and every number, and each of the sizes 1, 2, 4 and 8: what was set is got, all else of the text is as it was, and a number's bytes are its own: the law WordBack returns true and changes none of its arguments. No condition. -/
import Derived.Test.YteaaocinkpipaaaParts
import Derived.BigQuiet
import Derived.WalkKit
import Derived.ProofKit
import Derived.OpenShut
import Derived.ShutString
namespace Go.Proofs.Yteaaocinkpipaaa.wordBack
open Go.ChangeShapes Go.WideShapes Go.ChangeAt Go.RowKit
open Go.ChangeMaps (open_string shut_string)
set_option linter.unusedVariables false      -- a walk need not use every 'w<i>' (that an integer argument fits its kind)

theorem own : ownKnob Try.prog.godebug = none := by kernel_rfl

/-! ### STEP 1: THE WALK: the Go text returns true. 'Grown w w'': the world has at most new blocks (Derived/RowKit3.lean). Part the cases AHEAD of 'go_enter' where a test parts the walk; take each callee by a contract of your own. -/
set_option maxRecDepth 100000 in
set_option maxHeartbeats 4000000 in
theorem walk (a0 : ByteArray) (a1 : Int) (a2 : Int) (w0 : a0.size ≤ maxLen) (w1 : (Lit.int .i64 a1).wf = true) (w2 : (Lit.int .u64 a2).wf = true) (w : World) :
    Calls Try.prog 5 #[.string a0, .int .i64 a1, .int .u64 a2] w fun e w' => e = .returned (.bool true) ∧ Grown w w' := by
  have b1 := bd_i64 w1
  obtain ⟨b2, b2'⟩ := bd_u64 w2
  have b0 : a0.size ≤ 2 ^ 63 - 1 := w0
  clear w0 w1 w2
  have HG : Gr w w := Gr.refl w
  by_cases hl : 4096 < a0.size
  · go_enter Try.func5, Try.ntmps5
    go_wp2_with (first
      | (go_at_call 8; refine (alive_any _).mono ?_; rintro e w' ⟨rfl, hg⟩; replace HG := HG.trans hg; clear hg))
    go_ret
    exact ⟨rfl, HG.grown⟩
  have hd : decide (4096 < (a0.size : Int)) = false := by simp; omega
  have hlow : lowV a2 8 = a2 := by rw [lowV8]; omega
  go_enter Try.func5, Try.ntmps5
  go_wp2_with (first
    | (go_at_call 19; refine (sizes_any _).mono ?_; rintro e w' ⟨rfl, rfl⟩))
  go_loopw [8] (fun i wr => ∃ k : Nat, k ≤ 4 ∧ i = .int .i64 k ∧ wr.heap[w.heap.size]? = some (.cells szs 3) ∧ Gr w wr) (fun i _ => 4 - (intOf i).toNat)
  case atStart => exact ⟨0, by omega, rfl, by show (w.heap.push _)[w.heap.size]? = _; simp [szs], ⟨by go_grown, by go_grown⟩⟩
  case round =>
    obtain ⟨k, hk, rfl, hb, hgr⟩ := hrel
    by_cases hlt : k < 4
    · obtain ⟨m, hm, hsz⟩ : ∃ m : Nat, szN k = m ∧ isz m = true := by
        have := isz_true (szN_ok k)
        exact ⟨(szN k).toNat, by omega, by rw [show (((szN k).toNat : Nat) : Int) = szN k by omega]; exact szN_ok k⟩
      have hcell : wr.cell? ⟨w.heap.size, k, none⟩ = some (.int .i64 m) := by rw [sz_cell hb hlt, hm]
      have hm8 : 1 ≤ m ∧ m ≤ 8 := by have := isz_true hsz; omega
      have HB : Hid (wr.heap[w.heap.size]? = some (.cells szs 3)) := hb
      have hsiz : w.heap.size < wr.heap.size := by
        rcases Nat.lt_or_ge w.heap.size wr.heap.size with h | h
        · exact h
        · rw [Array.getElem?_eq_none h] at hb; cases hb
      clear hm hb
      by_cases he : errOf a0.size a1 m = 0
      · obtain ⟨_, g2, g3⟩ := errOf_zero he
        obtain ⟨a, rfl⟩ := Int.eq_ofNat_of_zero_le g2
        have hfit : a + m ≤ a0.size := by omega
        have q1 := size_setB a0 a m a2 hsz hfit
        have q2 := setB_head a0 a m a2 hsz hfit
        have q3 := setB_tail a0 a m a2 hsz hfit
        have q4 := setB_mid a0 a m a2 hsz hfit
        have q5 := get_setB a0 a m a2 hsz hfit
        have q6 : (setB a0 a a2 m).size ≤ 2 ^ 63 - 1 := by rw [q1]; exact b0
        have hw : IntKind.i64.wrap ((a : Int) + (m : Int)) = (a : Int) + (m : Int) := IntWalk.i64_in _ ⟨by omega, by omega⟩
        have hi : (a : Int) + (m : Int) ≤ (a0.size : Int) := by omega
        have hi0 : (0 : Int) ≤ (a : Int) + (m : Int) := by omega
        have hi1 : (a : Int) ≤ (a : Int) + (m : Int) := by omega
        have hi2 : (a : Int) ≤ (a0.size : Int) := by omega
        go_wp2_with (first
          | (go_at_call 11; refine (set_any _ _ _ _ b2 b2' b0 b1 _).mono ?_; rintro e w' ⟨rfl, hg⟩; replace hgr := hgr.trans hg; replace HB : Hid _ := (hg.below.block _ hsiz).trans HB; replace hsiz := Nat.lt_of_lt_of_le hsiz hg.below.size; clear hg)
          | (go_at_call 9; refine (get_any _ _ _ q6 b1 _).mono ?_; rintro e w' ⟨rfl, hg⟩; replace hgr := hgr.trans hg; replace HB : Hid _ := (hg.below.block _ hsiz).trans HB; replace hsiz := Nat.lt_of_lt_of_le hsiz hg.below.size; clear hg))
        have hd1 : decide ((a : Int) < 0) = false := by simp
        have hd2 : decide ((a0.size : Int) - (m : Int) < (a : Int)) = false := by simp; omega
        have hne : Nonempty (GrBy w') := ⟨⟨w', Gr.refl w'⟩⟩
        refine wp_region_gr (by kernel_rfl) (by kernel_rfl) ?_
        repeat (first
          | go_big_quiet_skip
          | (go_big_quiet_want; go_big_quiet_op; first
            | go_big_quiet_on
            | (apply Exists.intro
               refine ⟨fun p => ?_, ?_⟩
               · first
                 | (go_at_call 15; exact calls_same (low_any _ _ b2 b2' _))
                 | (go_at_call 13; exact calls_gr (of_any _ b2 b2' _ _))
               go_big_quiet_on)))
        refine wpQuiet_nil ?_
        intro _ hw'
        obtain ⟨⟨wq, hq⟩, hw''⟩ := hw'
        simp only at hw''
        subst hw''
        go_wp2
        go_roundw
        case rel => exact ⟨k + 1, by omega, by go_num, (hq.below.block _ hsiz).trans HB, hgr.trans hq⟩
        case measure => simp [intOf]; omega
      · have hb : (errOf a0.size a1 m == 0) = false := by simpa using he
        have hb2 : (errOf a0.size a1 m != 0) = true := by simpa using he
        have hcase : a1 < 0 ∨ (0 ≤ a1 ∧ (a0.size : Int) < a1) ∨ (0 ≤ a1 ∧ a1 ≤ (a0.size : Int) ∧ (a0.size : Int) - a1 < m) := by
          by_cases c1 : a1 < 0
          · exact Or.inl c1
          · by_cases c2 : (a0.size : Int) < a1
            · exact Or.inr (Or.inl ⟨by omega, c2⟩)
            · by_cases c3 : (a0.size : Int) - a1 < m
              · exact Or.inr (Or.inr ⟨by omega, by omega, c3⟩)
              · exact absurd (errOf_ok hsz (by omega) (by omega)) he
        clear he
        rcases hcase with c1 | ⟨c1, c2⟩ | ⟨c1, c2, c3⟩
        all_goals
          go_wp2_with (first
            | (go_at_call 11; refine (set_any _ _ _ _ b2 b2' b0 b1 _).mono ?_; rintro e w' ⟨rfl, hg⟩; replace hgr := hgr.trans hg; replace HB : Hid _ := (hg.below.block _ hsiz).trans HB; replace hsiz := Nat.lt_of_lt_of_le hsiz hg.below.size; clear hg))
          go_roundw
          case rel => exact ⟨k + 1, by omega, by go_num, HB, hgr⟩
          case measure => simp [intOf]; omega
    · obtain rfl : k = 4 := by omega
      go_wp2_with (first
        | (go_at_call 15; refine (low_any _ _ b2 b2' _).mono ?_; rintro e w' ⟨rfl, rfl⟩)
        | (go_at_call 8; refine (alive_any _).mono ?_; rintro e w' ⟨rfl, hg⟩; replace hgr := hgr.trans hg; clear hg))
      go_ret
      exact ⟨rfl, hgr.grown⟩

/-! ### THE ROW's STEP: WRITTEN OUT: LEAVE IT -/
set_option maxRecDepth 100000 in
theorem lifted (os : Os) (started : os.Started) (H : Type) (enc : TypeId × Value → H) :
    ReturnsInHanded {} Try.checked os 5 .any (Rows.wordBackSpec.pre6 enc Try.prog Try.f5 Rows.wordBackRow.domain false) (Rows.wordBackSpec.post enc Try.prog Try.f5 false true false false) := by
  refine returnsInHanded_of_change (C := Try.checked) own started (by kernel_rfl) Try.func5
    (ChangeSpec.witness6 (enc := enc) (C := Try.checked) false ⟨#[], #[.string ByteArray.empty, .int .i64 0, .int .u64 0], []⟩ 8 (by kernel_rfl) (by kernel_rfl) (by kernel_rfl) (by kernel_rfl)) ?_
  intro W base args ds gs before hval0 hW hcnd _
  have hval : ∀ (j : Nat) t v, Try.f5.params[j]? = some t → args[j]? = some v → Value.okWide Try.prog W .any base t v := hval0
  have hW' := hW
  obtain ⟨p, q, hA0, hV, rfl, hfz, hnd⟩ := hW
  have hA : DataW.TrodAll enc Try.prog W 0 (fun _ => true) true Try.f5.params.toList args.toList ds p := hA0
  rw [Try.params5] at hA hval
  obtain ⟨v0, vs0, d0, ds0, p0, q0, hargs, rfl, rfl, h0, r0⟩ := trodAll_cons hA
  obtain ⟨v1, vs1, d1, ds1, p1, q1, rfl, rfl, rfl, h1, r1⟩ := trodAll_cons r0
  obtain ⟨v2, vs2, d2, ds2, p2, q2, rfl, rfl, rfl, h2, r2⟩ := trodAll_cons r1
  obtain ⟨rfl, rfl, rfl⟩ := trodAll_nil r2
  obtain rfl : args = #[v0, v1, v2] := by cases args; simp_all
  obtain ⟨rfl, rfl⟩ := trodVars_none hV
  obtain ⟨a0, rfl, rfl, rfl, w0⟩ := open_string Try.underlying9 (hval 0 9 v0 rfl rfl) h0
  obtain ⟨a1, rfl, rfl, rfl, w1⟩ := open_int Try.underlying3 (hval 1 3 v1 rfl rfl) h1
  obtain ⟨a2, rfl, rfl, rfl, w2⟩ := open_int Try.underlying23 (hval 2 23 v2 rfl rfl) h2
  clear hA0 hval0
  simp only [List.append_nil] at hW'
  refine (walk a0 a1 a2 w0 w1 w2 W).mono fun e W' ⟨he, hg⟩ => ?_
  subst he
  exact ⟨_, rfl, post_of_same (pa := []) (pv := []) hW' (fun _ _ _ => (trodAll_cons_mk (shut_bool Try.underlying4 _) trodAll_mk0)) (fun sp _ => (trodAll_cons_mk (shut_string Try.underlying9 w0) (trodAll_cons_mk (shut_int Try.underlying3 w1) (trodAll_cons_mk (shut_int Try.underlying23 w2) trodAll_mk0)))) (fun _ _ => rfl) rfl
    (hg.frame _) hg.2.1 (ok_one (by kernel_rfl) rfl (okWide_bool_mk Try.underlying4 _))⟩

theorem over : Rows.wordBackRow.holds Try.pinned (OpenSpec.ofChange Rows.wordBackSpec) :=
  OpenClaim.holds_of_wide 5 Try.f5 rfl rfl rfl rfl rfl rfl rfl ⟨rfl, rfl, rfl, rfl, rfl⟩ rfl rfl rfl rfl rfl (by kernel_rfl) Try.func5 (by kernel_rfl)
    (of_decide_eq_true (by kernel_rfl)) (by unfold Func.isWrapper; first | (rw [if_pos (by decide +kernel)]; kernel_rfl) | (rw [if_neg (by decide +kernel)]; exact ⟨rfl, rfl⟩))
    (fun os started H enc _ => lifted os started H enc)

theorem proved : Rows.WordBackSaid :=
  over
end Go.Proofs.Yteaaocinkpipaaa.wordBack
namespace Go.Proofs.Yteaaocinkpipaaa
theorem wordBack_holds : Rows.WordBackSaid :=
  wordBack.proved
#print axioms wordBack_holds
end Go.Proofs.Yteaaocinkpipaaa
