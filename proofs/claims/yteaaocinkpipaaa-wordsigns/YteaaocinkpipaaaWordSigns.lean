/- For every two numbers, and each of the sizes 1, 2, 4 and 8: a number with a sign has the same bytes as without, is the number itself where that has room below a half, and what is lost of a number is its high bytes alone: the law WordSigns returns true and changes none of its arguments. No condition. -/
import Derived.Test.YteaaocinkpipaaaParts
import Derived.Test.YteaaocinkpipaaaSigns
import Derived.BigQuiet
import Derived.WalkKit
import Derived.ProofKit
import Derived.OpenShut
import Derived.ShutString
namespace Go.Proofs.Yteaaocinkpipaaa.wordSigns
open Go.ChangeShapes Go.WideShapes Go.ChangeAt Go.RowKit
open Go.ChangeMaps (open_string shut_string)
set_option linter.unusedVariables false      -- a walk need not use every 'w<i>' (that an integer argument fits its kind)

theorem own : ownKnob Try.prog.godebug = none := by kernel_rfl

/-! ### STEP 1: THE WALK: the Go text returns true. 'Grown w w'': the world has at most new blocks (Derived/RowKit3.lean). Part the cases AHEAD of 'go_enter' where a test parts the walk; take each callee by a contract of your own. -/
set_option maxRecDepth 100000 in
set_option maxHeartbeats 4000000 in
theorem walk (a0 : Int) (a1 : Int) (w0 : (Lit.int .u64 a0).wf = true) (w1 : (Lit.int .u64 a1).wf = true) (w : World) :
    Calls Try.prog 6 #[.int .u64 a0, .int .u64 a1] w fun e w' => e = .returned (.bool true) ∧ Grown w w' := by
  obtain ⟨b0, b0'⟩ := bd_u64 w0
  obtain ⟨b1, b1'⟩ := bd_u64 w1
  clear w0 w1
  go_enter Try.func6, Try.ntmps6
  go_wp2_with (first
    | (go_at_call 19; refine (sizes_any _).mono ?_; rintro e w' ⟨rfl, rfl⟩))
  go_loopw [6] (fun i wr => ∃ k : Nat, k ≤ 4 ∧ i = .int .i64 k ∧ wr.heap[w.heap.size]? = some (.cells szs 3) ∧ Gr w wr) (fun i _ => 4 - (intOf i).toNat)
  case atStart => exact ⟨0, by omega, rfl, by show (w.heap.push _)[w.heap.size]? = _; simp [szs], ⟨by go_grown, by go_grown⟩⟩
  case round =>
    obtain ⟨k, hk, rfl, hb, hgr⟩ := hrel
    by_cases hlt : k < 4
    · have hcell := sz_cell hb hlt
      have HB : Hid (wr.heap[w.heap.size]? = some (.cells szs 3)) := hb
      have hsiz : w.heap.size < wr.heap.size := by
        rcases Nat.lt_or_ge w.heap.size wr.heap.size with h | h
        · exact h
        · rw [Array.getElem?_eq_none h] at hb; cases hb
      clear hb
      match k, hlt with
      | 0, _ =>
        obtain ⟨S, L, U, hs, hl, hu, hul, hus, hll, hu0, hu1, hl0, hl1, hlx, hcas, hsb, hsc⟩ := sg1 a0 b0 b0'
        have hz : szN 0 = 1 := rfl
        rw [hz] at hcell
        have hof : ofB U 1 = ofB a0 1 := ofB_eq (by decide) (hul.trans hl.symm)
        have hbeq := ofB_beq (x := a0) (y := a1) (n := 1) (by decide)
        rw [hl] at hbeq
        obtain ⟨M, hM⟩ : ∃ M, lowV a1 1 = M := ⟨_, rfl⟩
        rw [hM] at hbeq
        rcases hcas with ⟨c0, c1, c2, c3⟩ | ⟨c0, c1, c2⟩
        · subst c1 c3
          clear hul
          go_wp2_with (first
            | (go_at_call 13; refine (of_any _ (by assumption) (by assumption) _ _).mono ?_; rintro e w' ⟨rfl, hg⟩; replace hgr := hgr.trans hg; replace HB : Hid _ := (hg.below.block _ hsiz).trans HB; replace hsiz := Nat.lt_of_lt_of_le hsiz hg.below.size; clear hg)
            | (go_at_call 15; refine (low_any _ _ (by assumption) (by assumption) _).mono ?_; rintro e w' ⟨rfl, rfl⟩)
            | (go_at_call 17; refine (sign_any _ _ (by assumption) (by assumption) _).mono ?_; rintro e w' ⟨rfl, rfl⟩))
          exact ⟨⟨1, by omega, rfl, HB, hgr⟩, by decide⟩
        · have c1' : (L / 128 == 0) = false := by simpa using c1
          have c2' : S + 256 = L := by have := c2 (by omega); omega
          clear hul c1 c2
          go_wp2_with (first
            | (go_at_call 13; refine (of_any _ (by assumption) (by assumption) _ _).mono ?_; rintro e w' ⟨rfl, hg⟩; replace hgr := hgr.trans hg; replace HB : Hid _ := (hg.below.block _ hsiz).trans HB; replace hsiz := Nat.lt_of_lt_of_le hsiz hg.below.size; clear hg)
            | (go_at_call 15; refine (low_any _ _ (by assumption) (by assumption) _).mono ?_; rintro e w' ⟨rfl, rfl⟩)
            | (go_at_call 17; refine (sign_any _ _ (by assumption) (by assumption) _).mono ?_; rintro e w' ⟨rfl, rfl⟩))
          exact ⟨⟨1, by omega, rfl, HB, hgr⟩, by decide⟩
      | 1, _ =>
        obtain ⟨S, L, U, hs, hl, hu, hul, hus, hll, hu0, hu1, hl0, hl1, hlx, hcas, hsb, hsc⟩ := sg2 a0 b0 b0'
        have hz : szN 1 = 2 := rfl
        rw [hz] at hcell
        have hof : ofB U 2 = ofB a0 2 := ofB_eq (by decide) (hul.trans hl.symm)
        have hbeq := ofB_beq (x := a0) (y := a1) (n := 2) (by decide)
        rw [hl] at hbeq
        obtain ⟨M, hM⟩ : ∃ M, lowV a1 2 = M := ⟨_, rfl⟩
        rw [hM] at hbeq
        rcases hcas with ⟨c0, c1, c2, c3⟩ | ⟨c0, c1, c2⟩
        · subst c1 c3
          clear hul
          go_wp2_with (first
            | (go_at_call 13; refine (of_any _ (by assumption) (by assumption) _ _).mono ?_; rintro e w' ⟨rfl, hg⟩; replace hgr := hgr.trans hg; replace HB : Hid _ := (hg.below.block _ hsiz).trans HB; replace hsiz := Nat.lt_of_lt_of_le hsiz hg.below.size; clear hg)
            | (go_at_call 15; refine (low_any _ _ (by assumption) (by assumption) _).mono ?_; rintro e w' ⟨rfl, rfl⟩)
            | (go_at_call 17; refine (sign_any _ _ (by assumption) (by assumption) _).mono ?_; rintro e w' ⟨rfl, rfl⟩))
          exact ⟨⟨2, by omega, rfl, HB, hgr⟩, by decide⟩
        · have c1' : (L / 32768 == 0) = false := by simpa using c1
          have c2' : S + 65536 = L := by have := c2 (by omega); omega
          clear hul c1 c2
          go_wp2_with (first
            | (go_at_call 13; refine (of_any _ (by assumption) (by assumption) _ _).mono ?_; rintro e w' ⟨rfl, hg⟩; replace hgr := hgr.trans hg; replace HB : Hid _ := (hg.below.block _ hsiz).trans HB; replace hsiz := Nat.lt_of_lt_of_le hsiz hg.below.size; clear hg)
            | (go_at_call 15; refine (low_any _ _ (by assumption) (by assumption) _).mono ?_; rintro e w' ⟨rfl, rfl⟩)
            | (go_at_call 17; refine (sign_any _ _ (by assumption) (by assumption) _).mono ?_; rintro e w' ⟨rfl, rfl⟩))
          exact ⟨⟨2, by omega, rfl, HB, hgr⟩, by decide⟩
      | 2, _ =>
        obtain ⟨S, L, U, hs, hl, hu, hul, hus, hll, hu0, hu1, hl0, hl1, hlx, hcas, hsb, hsc⟩ := sg4 a0 b0 b0'
        have hz : szN 2 = 4 := rfl
        rw [hz] at hcell
        have hof : ofB U 4 = ofB a0 4 := ofB_eq (by decide) (hul.trans hl.symm)
        have hbeq := ofB_beq (x := a0) (y := a1) (n := 4) (by decide)
        rw [hl] at hbeq
        obtain ⟨M, hM⟩ : ∃ M, lowV a1 4 = M := ⟨_, rfl⟩
        rw [hM] at hbeq
        rcases hcas with ⟨c0, c1, c2, c3⟩ | ⟨c0, c1, c2⟩
        · subst c1 c3
          clear hul
          go_wp2_with (first
            | (go_at_call 13; refine (of_any _ (by assumption) (by assumption) _ _).mono ?_; rintro e w' ⟨rfl, hg⟩; replace hgr := hgr.trans hg; replace HB : Hid _ := (hg.below.block _ hsiz).trans HB; replace hsiz := Nat.lt_of_lt_of_le hsiz hg.below.size; clear hg)
            | (go_at_call 15; refine (low_any _ _ (by assumption) (by assumption) _).mono ?_; rintro e w' ⟨rfl, rfl⟩)
            | (go_at_call 17; refine (sign_any _ _ (by assumption) (by assumption) _).mono ?_; rintro e w' ⟨rfl, rfl⟩))
          exact ⟨⟨3, by omega, rfl, HB, hgr⟩, by decide⟩
        · have c1' : (L / 2147483648 == 0) = false := by simpa using c1
          have c2' : S + 4294967296 = L := by have := c2 (by omega); omega
          clear hul c1 c2
          go_wp2_with (first
            | (go_at_call 13; refine (of_any _ (by assumption) (by assumption) _ _).mono ?_; rintro e w' ⟨rfl, hg⟩; replace hgr := hgr.trans hg; replace HB : Hid _ := (hg.below.block _ hsiz).trans HB; replace hsiz := Nat.lt_of_lt_of_le hsiz hg.below.size; clear hg)
            | (go_at_call 15; refine (low_any _ _ (by assumption) (by assumption) _).mono ?_; rintro e w' ⟨rfl, rfl⟩)
            | (go_at_call 17; refine (sign_any _ _ (by assumption) (by assumption) _).mono ?_; rintro e w' ⟨rfl, rfl⟩))
          exact ⟨⟨3, by omega, rfl, HB, hgr⟩, by decide⟩
      | 3, _ =>
        obtain ⟨S, L, U, hs, hl, hu, hul, hus, hll, hu0, hu1, hl0, hl1, hlx, hcas, hsb, hsc⟩ := sg8 a0 b0 b0'
        have hz : szN 3 = 8 := rfl
        rw [hz] at hcell
        have hof : ofB U 8 = ofB a0 8 := ofB_eq (by decide) (hul.trans hl.symm)
        have hbeq := ofB_beq (x := a0) (y := a1) (n := 8) (by decide)
        rw [hl] at hbeq
        obtain ⟨M, hM⟩ : ∃ M, lowV a1 8 = M := ⟨_, rfl⟩
        rw [hM] at hbeq
        rcases hcas with ⟨c0, c1, c2, c3⟩ | ⟨c0, c1, c2⟩
        · subst c1 c3
          clear hul
          go_wp2_with (first
            | (go_at_call 13; refine (of_any _ (by assumption) (by assumption) _ _).mono ?_; rintro e w' ⟨rfl, hg⟩; replace hgr := hgr.trans hg; replace HB : Hid _ := (hg.below.block _ hsiz).trans HB; replace hsiz := Nat.lt_of_lt_of_le hsiz hg.below.size; clear hg)
            | (go_at_call 15; refine (low_any _ _ (by assumption) (by assumption) _).mono ?_; rintro e w' ⟨rfl, rfl⟩)
            | (go_at_call 17; refine (sign_any _ _ (by assumption) (by assumption) _).mono ?_; rintro e w' ⟨rfl, rfl⟩))
          exact ⟨⟨4, by omega, rfl, HB, hgr⟩, by decide⟩
        · have c1' : (L / 9223372036854775808 == 0) = false := by simpa using c1
          skip
          clear hul c1 c2
          go_wp2_with (first
            | (go_at_call 13; refine (of_any _ (by assumption) (by assumption) _ _).mono ?_; rintro e w' ⟨rfl, hg⟩; replace hgr := hgr.trans hg; replace HB : Hid _ := (hg.below.block _ hsiz).trans HB; replace hsiz := Nat.lt_of_lt_of_le hsiz hg.below.size; clear hg)
            | (go_at_call 15; refine (low_any _ _ (by assumption) (by assumption) _).mono ?_; rintro e w' ⟨rfl, rfl⟩)
            | (go_at_call 17; refine (sign_any _ _ (by assumption) (by assumption) _).mono ?_; rintro e w' ⟨rfl, rfl⟩))
          exact ⟨⟨4, by omega, rfl, HB, hgr⟩, by decide⟩
    · obtain rfl : k = 4 := by omega
      have r1 : (ofB a0 8).size = 8 := size_ofB (by decide)
      have r2 : (ofB a0 4).size = 4 := size_ofB (by decide)
      have r3 := ofB_84 a0
      have r4 := ofB_42 a0
      have r5 : lowV a0 3 = 0 := lowV0 a0 (by decide)
      have r6 : ofB a0 0 = ⟨#[]⟩ := rfl
      go_wp2_with (first
        | (go_at_call 13; refine (of_any _ (by assumption) (by assumption) _ _).mono ?_; rintro e w' ⟨rfl, hg⟩; replace hgr := hgr.trans hg; clear hg))
      have hne : Nonempty (GrBy w') := ⟨⟨w', Gr.refl w'⟩⟩
      refine wp_region_gr (by kernel_rfl) (by kernel_rfl) ?_
      repeat (first
        | go_big_quiet_skip
        | (go_big_quiet_want; go_big_quiet_op; first
          | go_big_quiet_on
          | (apply Exists.intro
             refine ⟨fun p => ?_, ?_⟩
             · first
               | (go_at_call 15; exact calls_same (low_any _ _ b0 b0' _))
               | (go_at_call 13; exact calls_gr (of_any _ b0 b0' _ _))
               | (go_at_call 8; exact calls_gr (alive_any _))
             go_big_quiet_on)))
      refine wpQuiet_nil ?_
      intro _ hw'
      obtain ⟨⟨wq, hq⟩, hw''⟩ := hw'
      simp only at hw''
      subst hw''
      go_wp2
      go_ret
      exact ⟨rfl, (hgr.trans hq).grown⟩

/-! ### THE ROW's STEP: WRITTEN OUT: LEAVE IT -/
set_option maxRecDepth 100000 in
theorem lifted (os : Os) (started : os.Started) (H : Type) (enc : TypeId × Value → H) :
    ReturnsInHanded {} Try.checked os 6 .any (Rows.wordSignsSpec.pre6 enc Try.prog Try.f6 Rows.wordSignsRow.domain false) (Rows.wordSignsSpec.post enc Try.prog Try.f6 false true false false) := by
  refine returnsInHanded_of_change (C := Try.checked) own started (by kernel_rfl) Try.func6
    (ChangeSpec.witness6 (enc := enc) (C := Try.checked) false ⟨#[], #[.int .u64 0, .int .u64 0], []⟩ 8 (by kernel_rfl) (by kernel_rfl) (by kernel_rfl) (by kernel_rfl)) ?_
  intro W base args ds gs before hval0 hW hcnd _
  have hval : ∀ (j : Nat) t v, Try.f6.params[j]? = some t → args[j]? = some v → Value.okWide Try.prog W .any base t v := hval0
  have hW' := hW
  obtain ⟨p, q, hA0, hV, rfl, hfz, hnd⟩ := hW
  have hA : DataW.TrodAll enc Try.prog W 0 (fun _ => true) true Try.f6.params.toList args.toList ds p := hA0
  rw [Try.params6] at hA hval
  obtain ⟨v0, vs0, d0, ds0, p0, q0, hargs, rfl, rfl, h0, r0⟩ := trodAll_cons hA
  obtain ⟨v1, vs1, d1, ds1, p1, q1, rfl, rfl, rfl, h1, r1⟩ := trodAll_cons r0
  obtain ⟨rfl, rfl, rfl⟩ := trodAll_nil r1
  obtain rfl : args = #[v0, v1] := by cases args; simp_all
  obtain ⟨rfl, rfl⟩ := trodVars_none hV
  obtain ⟨a0, rfl, rfl, rfl, w0⟩ := open_int Try.underlying23 (hval 0 23 v0 rfl rfl) h0
  obtain ⟨a1, rfl, rfl, rfl, w1⟩ := open_int Try.underlying23 (hval 1 23 v1 rfl rfl) h1
  clear hA0 hval0
  simp only [List.append_nil] at hW'
  refine (walk a0 a1 w0 w1 W).mono fun e W' ⟨he, hg⟩ => ?_
  subst he
  exact ⟨_, rfl, post_of_same (pa := []) (pv := []) hW' (fun _ _ _ => (trodAll_cons_mk (shut_bool Try.underlying4 _) trodAll_mk0)) (fun sp _ => (trodAll_cons_mk (shut_int Try.underlying23 w0) (trodAll_cons_mk (shut_int Try.underlying23 w1) trodAll_mk0))) (fun _ _ => rfl) rfl
    (hg.frame _) hg.2.1 (ok_one (by kernel_rfl) rfl (okWide_bool_mk Try.underlying4 _))⟩

theorem over : Rows.wordSignsRow.holds Try.pinned (OpenSpec.ofChange Rows.wordSignsSpec) :=
  OpenClaim.holds_of_wide 6 Try.f6 rfl rfl rfl rfl rfl rfl rfl ⟨rfl, rfl, rfl, rfl, rfl⟩ rfl rfl rfl rfl rfl (by kernel_rfl) Try.func6 (by kernel_rfl)
    (of_decide_eq_true (by kernel_rfl)) (by unfold Func.isWrapper; first | (rw [if_pos (by decide +kernel)]; kernel_rfl) | (rw [if_neg (by decide +kernel)]; exact ⟨rfl, rfl⟩))
    (fun os started H enc _ => lifted os started H enc)

theorem proved : Rows.WordSignsSaid :=
  over
end Go.Proofs.Yteaaocinkpipaaa.wordSigns
namespace Go.Proofs.Yteaaocinkpipaaa
theorem wordSigns_holds : Rows.WordSignsSaid :=
  wordSigns.proved
#print axioms wordSigns_holds
end Go.Proofs.Yteaaocinkpipaaa
