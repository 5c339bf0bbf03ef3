/- Towards the statements of package insn (layer 7): kinds: contracts of the document's Kind, for every instruction. -/
import Derived.Test.YtdmdmbcapjmnlaaGreatKC
namespace Go.Proofs.YtdmdmbcapjmnlaaGreat
open Go.ChangeShapes Go.WideShapes Go.ChangeAt Go.RowKit
set_option linter.unusedVariables false
set_option maxRecDepth 20000
set_option linter.unusedSimpArgs false

def rjV (o d s f i : Int) : Int :=
  if askB (o / 16) = true ∧ isB d s f i true (xB o) true (!xB o) = true then 5
  else if o % 8 = 5 ∧ xB o = false then
    (if o / 16 = 0 ∧ isB d s f i false false true false = true then 10 else if o / 16 = 9 ∧ isB d s f i false false false false = true then 8
     else if o / 16 = 8 ∧ isB d s f i false true false true = true ∧ s = 0 then 6 else if o / 16 = 8 ∧ isB d s f i false true false true = true ∧ s = 1 then 7 else 0)
  else 0
theorem rjumps_t (o d s f i : Int) (h0 : 0 ≤ o) (h1 : o ≤ 255) (d0 : 0 ≤ d) (d1 : d ≤ 255) (s0 : 0 ≤ s) (s1 : s ≤ 255) (hA : askB (o / 16) = true) (w : World) : Calls Tryz.prog 54 #[ins o d s f i] w fun e w' => e = .returned (.int .u8 (rjV o d s f i)) ∧ Gr w w' := by
  go_enter Tryz.func54, Tryz.ntmps54
  go_upto_region 1 with fail
  have HG : Gr w (w.alloc (Obj.cells #[.int .u8 o, .int .u8 d, .int .u8 s, .int .i16 f, .int .i32 i] 53)) := gr1 _ _ _
  have HB := At5.new w o d s f i
  generalize (w.alloc (Obj.cells #[.int .u8 o, .int .u8 d, .int .u8 s, .int .i16 f, .int .i32 i] 53)) = W at HG HB ⊢
  generalize w.heap.size = B at HB ⊢
  obtain ⟨c0, c1, c2, c3, c4⟩ := HB.cells
  go_upto_region 2 with (first | (go_at_call 51; refine (ex_gr (rcode_any _ _ _ _ _ h0 h1 _)).mono ?_; rintro e w' ⟨rfl, hg⟩; replace HB := HB.gr hg; replace HG := HG.trans hg; clear hg; obtain ⟨c0, c1, c2, c3, c4⟩ := HB.cells))
  generalize w' = W at HG HB c0 c1 c2 c3 c4 ⊢
  have c := fun p => (HB.all p).1
  have c' := fun p => (HB.all p).2.1
  have c'' := fun p => (HB.all p).2.2.1
  have c3' := fun p => (HB.all p).2.2.2.1
  have c4' := fun p => (HB.all p).2.2.2.2
  have hne : Nonempty (GrBy W) := ⟨⟨W, Gr.refl W⟩⟩
  refine wp_region_gr (by kernel_rfl) (by kernel_rfl) ?_
  repeat (first
    | go_big_quiet_skip
    | (go_big_quiet_want; go_big_quiet_op; first
      | go_big_quiet_on
      | (apply Exists.intro
         refine ⟨fun p => ?_, ?_⟩
         · first
           | (go_at_call 52; exact calls_gr (ex_gr (rx_any _ _ _ _ _ h0 h1 _)))
           | (go_at_call 53; exact calls_gr (ex_gr (is_any _ _ _ _ _ _ _ _ _ _)))
           | (go_at_call 84; exact calls_gr ((hA ▸ same_gr (rasks_any _ (by omega) (by omega) _))))
         go_big_quiet_on)))
  refine wpQuiet_nil ?_
  intro _ hw'
  obtain ⟨⟨wq, hq⟩, rfl⟩ := hw'
  replace HB := HB.gr hq; replace HG := HG.trans hq; clear c c' c'' c3' c4' hne c0 c1 c2 c3 c4 hq
  obtain ⟨c0, c1, c2, c3, c4⟩ := HB.cells

  go_wp2_with (first | (go_at_call 50; refine (ex_gr (rclass_any _ _ _ _ _ h0 h1 _)).mono ?_; rintro e w' ⟨rfl, hg⟩; replace HB := HB.gr hg; replace HG := HG.trans hg; clear hg; obtain ⟨c0, c1, c2, c3, c4⟩ := HB.cells) | (go_at_call 52; refine (ex_gr (rx_any _ _ _ _ _ h0 h1 _)).mono ?_; rintro e w' ⟨rfl, hg⟩; replace HB := HB.gr hg; replace HG := HG.trans hg; clear hg; obtain ⟨c0, c1, c2, c3, c4⟩ := HB.cells) | (go_at_call 53; refine (ex_gr (is_any _ _ _ _ _ _ _ _ _ _)).mono ?_; rintro e w' ⟨rfl, hg⟩; replace HB := HB.gr hg; replace HG := HG.trans hg; clear hg; obtain ⟨c0, c1, c2, c3, c4⟩ := HB.cells) | (go_at_call 51; refine (ex_gr (rcode_any _ _ _ _ _ h0 h1 _)).mono ?_; rintro e w' ⟨rfl, hg⟩; replace HB := HB.gr hg; replace HG := HG.trans hg; clear hg; obtain ⟨c0, c1, c2, c3, c4⟩ := HB.cells))
  all_goals go_returns
  all_goals (refine ⟨ret_u8 ?_, HG⟩; (simp_all [rjV, askB] <;> omega))

theorem rjumps_f (o d s f i : Int) (h0 : 0 ≤ o) (h1 : o ≤ 255) (d0 : 0 ≤ d) (d1 : d ≤ 255) (s0 : 0 ≤ s) (s1 : s ≤ 255) (hA : askB (o / 16) = false) (w : World) : Calls Tryz.prog 54 #[ins o d s f i] w fun e w' => e = .returned (.int .u8 (rjV o d s f i)) ∧ Gr w w' := by
  go_enter Tryz.func54, Tryz.ntmps54
  go_upto_region 1 with fail
  have HG : Gr w (w.alloc (Obj.cells #[.int .u8 o, .int .u8 d, .int .u8 s, .int .i16 f, .int .i32 i] 53)) := gr1 _ _ _
  have HB := At5.new w o d s f i
  generalize (w.alloc (Obj.cells #[.int .u8 o, .int .u8 d, .int .u8 s, .int .i16 f, .int .i32 i] 53)) = W at HG HB ⊢
  generalize w.heap.size = B at HB ⊢
  obtain ⟨c0, c1, c2, c3, c4⟩ := HB.cells
  go_upto_region 2 with (first | (go_at_call 51; refine (ex_gr (rcode_any _ _ _ _ _ h0 h1 _)).mono ?_; rintro e w' ⟨rfl, hg⟩; replace HB := HB.gr hg; replace HG := HG.trans hg; clear hg; obtain ⟨c0, c1, c2, c3, c4⟩ := HB.cells))
  generalize w' = W at HG HB c0 c1 c2 c3 c4 ⊢
  have c := fun p => (HB.all p).1
  have c' := fun p => (HB.all p).2.1
  have c'' := fun p => (HB.all p).2.2.1
  have c3' := fun p => (HB.all p).2.2.2.1
  have c4' := fun p => (HB.all p).2.2.2.2
  have hne : Nonempty (GrBy W) := ⟨⟨W, Gr.refl W⟩⟩
  refine wp_region_gr (by kernel_rfl) (by kernel_rfl) ?_
  repeat (first
    | go_big_quiet_skip
    | (go_big_quiet_want; go_big_quiet_op; first
      | go_big_quiet_on
      | (apply Exists.intro
         refine ⟨fun p => ?_, ?_⟩
         · first
           | (go_at_call 52; exact calls_gr (ex_gr (rx_any _ _ _ _ _ h0 h1 _)))
           | (go_at_call 53; exact calls_gr (ex_gr (is_any _ _ _ _ _ _ _ _ _ _)))
           | (go_at_call 84; exact calls_gr ((hA ▸ same_gr (rasks_any _ (by omega) (by omega) _))))
         go_big_quiet_on)))
  refine wpQuiet_nil ?_
  intro _ hw'
  obtain ⟨⟨wq, hq⟩, rfl⟩ := hw'
  replace HB := HB.gr hq; replace HG := HG.trans hq; clear c c' c'' c3' c4' hne c0 c1 c2 c3 c4 hq
  obtain ⟨c0, c1, c2, c3, c4⟩ := HB.cells

  go_wp2_with (first | (go_at_call 50; refine (ex_gr (rclass_any _ _ _ _ _ h0 h1 _)).mono ?_; rintro e w' ⟨rfl, hg⟩; replace HB := HB.gr hg; replace HG := HG.trans hg; clear hg; obtain ⟨c0, c1, c2, c3, c4⟩ := HB.cells) | (go_at_call 52; refine (ex_gr (rx_any _ _ _ _ _ h0 h1 _)).mono ?_; rintro e w' ⟨rfl, hg⟩; replace HB := HB.gr hg; replace HG := HG.trans hg; clear hg; obtain ⟨c0, c1, c2, c3, c4⟩ := HB.cells) | (go_at_call 53; refine (ex_gr (is_any _ _ _ _ _ _ _ _ _ _)).mono ?_; rintro e w' ⟨rfl, hg⟩; replace HB := HB.gr hg; replace HG := HG.trans hg; clear hg; obtain ⟨c0, c1, c2, c3, c4⟩ := HB.cells) | (go_at_call 51; refine (ex_gr (rcode_any _ _ _ _ _ h0 h1 _)).mono ?_; rintro e w' ⟨rfl, hg⟩; replace HB := HB.gr hg; replace HG := HG.trans hg; clear hg; obtain ⟨c0, c1, c2, c3, c4⟩ := HB.cells))
  all_goals go_returns
  all_goals (refine ⟨ret_u8 ?_, HG⟩; (simp_all [rjV, askB] <;> omega))

theorem rjumps_any (o d s f i : Int) (h0 : 0 ≤ o) (h1 : o ≤ 255) (d0 : 0 ≤ d) (d1 : d ≤ 255) (s0 : 0 ≤ s) (s1 : s ≤ 255) (w : World) : Calls Tryz.prog 54 #[ins o d s f i] w fun e w' => e = .returned (.int .u8 (rjV o d s f i)) ∧ Gr w w' := by
  cases hA : askB (o / 16) with
  | true => exact rjumps_t _ _ _ _ _ h0 h1 d0 d1 s0 s1 hA w
  | false => exact rjumps_f _ _ _ _ _ h0 h1 d0 d1 s0 s1 hA w
def rkV (o d s f i : Int) : Int :=
  if o % 8 = 4 ∨ o % 8 = 7 then (if 12 < o / 16 ∨ (o / 16 = 8 ∧ xB o = true) ∨ d = 10 ∨ isB d s f i true (xB o) false (!xB o && !decide (o / 16 = 8)) = false then 0 else 1)
  else if o % 8 = 1 then (if o / 32 = 3 ∧ ¬ d = 10 ∧ isB d s f i true true true false = true then 2 else 0)
  else if o % 8 = 2 then (if o / 32 = 3 ∧ isB d s f i true false true true = true then 3 else 0)
  else if o % 8 = 3 then (if o / 32 = 3 ∧ isB d s f i true true true false = true then 4 else 0)
  else if o % 8 = 0 then (if o = 24 ∧ ¬ d = 10 ∧ s ≤ 2 ∧ isB d s f i true true false true = true then 9 else 0)
  else rjV o d s f i
theorem rkind_1 (o d s f i : Int) (h0 : 0 ≤ o) (h1 : o ≤ 255) (d0 : 0 ≤ d) (d1 : d ≤ 255) (s0 : 0 ≤ s) (s1 : s ≤ 255) (hc : o % 8 = 1) (w : World) : Calls Tryz.prog 24 #[ins o d s f i] w fun e w' => e = .returned (.int .u8 (rkV o d s f i)) ∧ Gr w w' := by
  have hm : bits .and .u8 o 224 = o / 32 * 32 := and224 o h0 h1
  go_enter Tryz.func24, Tryz.ntmps24
  go_upto_region 1 with fail
  have HG : Gr w (w.alloc (Obj.cells #[.int .u8 o, .int .u8 d, .int .u8 s, .int .i16 f, .int .i32 i] 53)) := gr1 _ _ _
  have HB := At5.new w o d s f i
  generalize (w.alloc (Obj.cells #[.int .u8 o, .int .u8 d, .int .u8 s, .int .i16 f, .int .i32 i] 53)) = W at HG HB ⊢
  generalize w.heap.size = B at HB ⊢
  obtain ⟨c0, c1, c2, c3, c4⟩ := HB.cells
  go_wp2_with (first | (go_at_call 50; refine (ex_gr (rclass_any _ _ _ _ _ h0 h1 _)).mono ?_; rw [hc]; rintro e w' ⟨rfl, hg⟩; replace HB := HB.gr hg; replace HG := HG.trans hg; clear hg; obtain ⟨c0, c1, c2, c3, c4⟩ := HB.cells) | (go_at_call 52; refine (ex_gr (rx_any _ _ _ _ _ h0 h1 _)).mono ?_; rintro e w' ⟨rfl, hg⟩; replace HB := HB.gr hg; replace HG := HG.trans hg; clear hg; obtain ⟨c0, c1, c2, c3, c4⟩ := HB.cells) | (go_at_call 53; refine (ex_gr (is_any _ _ _ _ _ _ _ _ _ _)).mono ?_; rintro e w' ⟨rfl, hg⟩; replace HB := HB.gr hg; replace HG := HG.trans hg; clear hg; obtain ⟨c0, c1, c2, c3, c4⟩ := HB.cells) | (go_at_call 51; refine (ex_gr (rcode_any _ _ _ _ _ h0 h1 _)).mono ?_; rintro e w' ⟨rfl, hg⟩; replace HB := HB.gr hg; replace HG := HG.trans hg; clear hg; obtain ⟨c0, c1, c2, c3, c4⟩ := HB.cells) | (go_at_call 54; refine (rjumps_any _ _ _ _ _ h0 h1 d0 d1 s0 s1 _).mono ?_; rintro e w' ⟨rfl, hg⟩; replace HB := HB.gr hg; replace HG := HG.trans hg; clear hg; obtain ⟨c0, c1, c2, c3, c4⟩ := HB.cells))
  all_goals go_returns
  all_goals (refine ⟨ret_u8 ?_, HG⟩; have e3 : (o / 32 * 32 = 96) = (o / 32 = 3) := (by apply propext; omega); ((try simp_all [rkV]) <;> (try omega)))

theorem rkind_2 (o d s f i : Int) (h0 : 0 ≤ o) (h1 : o ≤ 255) (d0 : 0 ≤ d) (d1 : d ≤ 255) (s0 : 0 ≤ s) (s1 : s ≤ 255) (hc : o % 8 = 2) (w : World) : Calls Tryz.prog 24 #[ins o d s f i] w fun e w' => e = .returned (.int .u8 (rkV o d s f i)) ∧ Gr w w' := by
  have hm : bits .and .u8 o 224 = o / 32 * 32 := and224 o h0 h1
  go_enter Tryz.func24, Tryz.ntmps24
  go_upto_region 1 with fail
  have HG : Gr w (w.alloc (Obj.cells #[.int .u8 o, .int .u8 d, .int .u8 s, .int .i16 f, .int .i32 i] 53)) := gr1 _ _ _
  have HB := At5.new w o d s f i
  generalize (w.alloc (Obj.cells #[.int .u8 o, .int .u8 d, .int .u8 s, .int .i16 f, .int .i32 i] 53)) = W at HG HB ⊢
  generalize w.heap.size = B at HB ⊢
  obtain ⟨c0, c1, c2, c3, c4⟩ := HB.cells
  go_wp2_with (first | (go_at_call 50; refine (ex_gr (rclass_any _ _ _ _ _ h0 h1 _)).mono ?_; rw [hc]; rintro e w' ⟨rfl, hg⟩; replace HB := HB.gr hg; replace HG := HG.trans hg; clear hg; obtain ⟨c0, c1, c2, c3, c4⟩ := HB.cells) | (go_at_call 52; refine (ex_gr (rx_any _ _ _ _ _ h0 h1 _)).mono ?_; rintro e w' ⟨rfl, hg⟩; replace HB := HB.gr hg; replace HG := HG.trans hg; clear hg; obtain ⟨c0, c1, c2, c3, c4⟩ := HB.cells) | (go_at_call 53; refine (ex_gr (is_any _ _ _ _ _ _ _ _ _ _)).mono ?_; rintro e w' ⟨rfl, hg⟩; replace HB := HB.gr hg; replace HG := HG.trans hg; clear hg; obtain ⟨c0, c1, c2, c3, c4⟩ := HB.cells) | (go_at_call 51; refine (ex_gr (rcode_any _ _ _ _ _ h0 h1 _)).mono ?_; rintro e w' ⟨rfl, hg⟩; replace HB := HB.gr hg; replace HG := HG.trans hg; clear hg; obtain ⟨c0, c1, c2, c3, c4⟩ := HB.cells) | (go_at_call 54; refine (rjumps_any _ _ _ _ _ h0 h1 d0 d1 s0 s1 _).mono ?_; rintro e w' ⟨rfl, hg⟩; replace HB := HB.gr hg; replace HG := HG.trans hg; clear hg; obtain ⟨c0, c1, c2, c3, c4⟩ := HB.cells))
  all_goals go_returns
  all_goals (refine ⟨ret_u8 ?_, HG⟩; have e3 : (o / 32 * 32 = 96) = (o / 32 = 3) := (by apply propext; omega); ((try simp_all [rkV]) <;> (try omega)))

theorem rkind_3 (o d s f i : Int) (h0 : 0 ≤ o) (h1 : o ≤ 255) (d0 : 0 ≤ d) (d1 : d ≤ 255) (s0 : 0 ≤ s) (s1 : s ≤ 255) (hc : o % 8 = 3) (w : World) : Calls Tryz.prog 24 #[ins o d s f i] w fun e w' => e = .returned (.int .u8 (rkV o d s f i)) ∧ Gr w w' := by
  have hm : bits .and .u8 o 224 = o / 32 * 32 := and224 o h0 h1
  go_enter Tryz.func24, Tryz.ntmps24
  go_upto_region 1 with fail
  have HG : Gr w (w.alloc (Obj.cells #[.int .u8 o, .int .u8 d, .int .u8 s, .int .i16 f, .int .i32 i] 53)) := gr1 _ _ _
  have HB := At5.new w o d s f i
  generalize (w.alloc (Obj.cells #[.int .u8 o, .int .u8 d, .int .u8 s, .int .i16 f, .int .i32 i] 53)) = W at HG HB ⊢
  generalize w.heap.size = B at HB ⊢
  obtain ⟨c0, c1, c2, c3, c4⟩ := HB.cells
  go_wp2_with (first | (go_at_call 50; refine (ex_gr (rclass_any _ _ _ _ _ h0 h1 _)).mono ?_; rw [hc]; rintro e w' ⟨rfl, hg⟩; replace HB := HB.gr hg; replace HG := HG.trans hg; clear hg; obtain ⟨c0, c1, c2, c3, c4⟩ := HB.cells) | (go_at_call 52; refine (ex_gr (rx_any _ _ _ _ _ h0 h1 _)).mono ?_; rintro e w' ⟨rfl, hg⟩; replace HB := HB.gr hg; replace HG := HG.trans hg; clear hg; obtain ⟨c0, c1, c2, c3, c4⟩ := HB.cells) | (go_at_call 53; refine (ex_gr (is_any _ _ _ _ _ _ _ _ _ _)).mono ?_; rintro e w' ⟨rfl, hg⟩; replace HB := HB.gr hg; replace HG := HG.trans hg; clear hg; obtain ⟨c0, c1, c2, c3, c4⟩ := HB.cells) | (go_at_call 51; refine (ex_gr (rcode_any _ _ _ _ _ h0 h1 _)).mono ?_; rintro e w' ⟨rfl, hg⟩; replace HB := HB.gr hg; replace HG := HG.trans hg; clear hg; obtain ⟨c0, c1, c2, c3, c4⟩ := HB.cells) | (go_at_call 54; refine (rjumps_any _ _ _ _ _ h0 h1 d0 d1 s0 s1 _).mono ?_; rintro e w' ⟨rfl, hg⟩; replace HB := HB.gr hg; replace HG := HG.trans hg; clear hg; obtain ⟨c0, c1, c2, c3, c4⟩ := HB.cells))
  all_goals go_returns
  all_goals (refine ⟨ret_u8 ?_, HG⟩; have e3 : (o / 32 * 32 = 96) = (o / 32 = 3) := (by apply propext; omega); ((try simp_all [rkV]) <;> (try omega)))

theorem rkind_0 (o d s f i : Int) (h0 : 0 ≤ o) (h1 : o ≤ 255) (d0 : 0 ≤ d) (d1 : d ≤ 255) (s0 : 0 ≤ s) (s1 : s ≤ 255) (hc : o % 8 = 0) (w : World) : Calls Tryz.prog 24 #[ins o d s f i] w fun e w' => e = .returned (.int .u8 (rkV o d s f i)) ∧ Gr w w' := by
  have hm : bits .and .u8 o 224 = o / 32 * 32 := and224 o h0 h1
  go_enter Tryz.func24, Tryz.ntmps24
  go_upto_region 1 with fail
  have HG : Gr w (w.alloc (Obj.cells #[.int .u8 o, .int .u8 d, .int .u8 s, .int .i16 f, .int .i32 i] 53)) := gr1 _ _ _
  have HB := At5.new w o d s f i
  generalize (w.alloc (Obj.cells #[.int .u8 o, .int .u8 d, .int .u8 s, .int .i16 f, .int .i32 i] 53)) = W at HG HB ⊢
  generalize w.heap.size = B at HB ⊢
  obtain ⟨c0, c1, c2, c3, c4⟩ := HB.cells
  go_wp2_with (first | (go_at_call 50; refine (ex_gr (rclass_any _ _ _ _ _ h0 h1 _)).mono ?_; rw [hc]; rintro e w' ⟨rfl, hg⟩; replace HB := HB.gr hg; replace HG := HG.trans hg; clear hg; obtain ⟨c0, c1, c2, c3, c4⟩ := HB.cells) | (go_at_call 52; refine (ex_gr (rx_any _ _ _ _ _ h0 h1 _)).mono ?_; rintro e w' ⟨rfl, hg⟩; replace HB := HB.gr hg; replace HG := HG.trans hg; clear hg; obtain ⟨c0, c1, c2, c3, c4⟩ := HB.cells) | (go_at_call 53; refine (ex_gr (is_any _ _ _ _ _ _ _ _ _ _)).mono ?_; rintro e w' ⟨rfl, hg⟩; replace HB := HB.gr hg; replace HG := HG.trans hg; clear hg; obtain ⟨c0, c1, c2, c3, c4⟩ := HB.cells) | (go_at_call 51; refine (ex_gr (rcode_any _ _ _ _ _ h0 h1 _)).mono ?_; rintro e w' ⟨rfl, hg⟩; replace HB := HB.gr hg; replace HG := HG.trans hg; clear hg; obtain ⟨c0, c1, c2, c3, c4⟩ := HB.cells) | (go_at_call 54; refine (rjumps_any _ _ _ _ _ h0 h1 d0 d1 s0 s1 _).mono ?_; rintro e w' ⟨rfl, hg⟩; replace HB := HB.gr hg; replace HG := HG.trans hg; clear hg; obtain ⟨c0, c1, c2, c3, c4⟩ := HB.cells))
  all_goals go_returns
  all_goals (refine ⟨ret_u8 ?_, HG⟩; have e3 : (o / 32 * 32 = 96) = (o / 32 = 3) := (by apply propext; omega); ((try simp_all [rkV]) <;> (try omega)))

theorem rkind_5 (o d s f i : Int) (h0 : 0 ≤ o) (h1 : o ≤ 255) (d0 : 0 ≤ d) (d1 : d ≤ 255) (s0 : 0 ≤ s) (s1 : s ≤ 255) (hc : o % 8 = 5) (w : World) : Calls Tryz.prog 24 #[ins o d s f i] w fun e w' => e = .returned (.int .u8 (rkV o d s f i)) ∧ Gr w w' := by
  have hm : bits .and .u8 o 224 = o / 32 * 32 := and224 o h0 h1
  go_enter Tryz.func24, Tryz.ntmps24
  go_upto_region 1 with fail
  have HG : Gr w (w.alloc (Obj.cells #[.int .u8 o, .int .u8 d, .int .u8 s, .int .i16 f, .int .i32 i] 53)) := gr1 _ _ _
  have HB := At5.new w o d s f i
  generalize (w.alloc (Obj.cells #[.int .u8 o, .int .u8 d, .int .u8 s, .int .i16 f, .int .i32 i] 53)) = W at HG HB ⊢
  generalize w.heap.size = B at HB ⊢
  obtain ⟨c0, c1, c2, c3, c4⟩ := HB.cells
  go_wp2_with (first | (go_at_call 50; refine (ex_gr (rclass_any _ _ _ _ _ h0 h1 _)).mono ?_; rw [hc]; rintro e w' ⟨rfl, hg⟩; replace HB := HB.gr hg; replace HG := HG.trans hg; clear hg; obtain ⟨c0, c1, c2, c3, c4⟩ := HB.cells) | (go_at_call 52; refine (ex_gr (rx_any _ _ _ _ _ h0 h1 _)).mono ?_; rintro e w' ⟨rfl, hg⟩; replace HB := HB.gr hg; replace HG := HG.trans hg; clear hg; obtain ⟨c0, c1, c2, c3, c4⟩ := HB.cells) | (go_at_call 53; refine (ex_gr (is_any _ _ _ _ _ _ _ _ _ _)).mono ?_; rintro e w' ⟨rfl, hg⟩; replace HB := HB.gr hg; replace HG := HG.trans hg; clear hg; obtain ⟨c0, c1, c2, c3, c4⟩ := HB.cells) | (go_at_call 51; refine (ex_gr (rcode_any _ _ _ _ _ h0 h1 _)).mono ?_; rintro e w' ⟨rfl, hg⟩; replace HB := HB.gr hg; replace HG := HG.trans hg; clear hg; obtain ⟨c0, c1, c2, c3, c4⟩ := HB.cells) | (go_at_call 54; refine (rjumps_any _ _ _ _ _ h0 h1 d0 d1 s0 s1 _).mono ?_; rintro e w' ⟨rfl, hg⟩; replace HB := HB.gr hg; replace HG := HG.trans hg; clear hg; obtain ⟨c0, c1, c2, c3, c4⟩ := HB.cells))
  all_goals go_returns
  all_goals (refine ⟨ret_u8 ?_, HG⟩; have e3 : (o / 32 * 32 = 96) = (o / 32 = 3) := (by apply propext; omega); (simp [rkV, hc]))

theorem rkind_6 (o d s f i : Int) (h0 : 0 ≤ o) (h1 : o ≤ 255) (d0 : 0 ≤ d) (d1 : d ≤ 255) (s0 : 0 ≤ s) (s1 : s ≤ 255) (hc : o % 8 = 6) (w : World) : Calls Tryz.prog 24 #[ins o d s f i] w fun e w' => e = .returned (.int .u8 (rkV o d s f i)) ∧ Gr w w' := by
  have hm : bits .and .u8 o 224 = o / 32 * 32 := and224 o h0 h1
  go_enter Tryz.func24, Tryz.ntmps24
  go_upto_region 1 with fail
  have HG : Gr w (w.alloc (Obj.cells #[.int .u8 o, .int .u8 d, .int .u8 s, .int .i16 f, .int .i32 i] 53)) := gr1 _ _ _
  have HB := At5.new w o d s f i
  generalize (w.alloc (Obj.cells #[.int .u8 o, .int .u8 d, .int .u8 s, .int .i16 f, .int .i32 i] 53)) = W at HG HB ⊢
  generalize w.heap.size = B at HB ⊢
  obtain ⟨c0, c1, c2, c3, c4⟩ := HB.cells
  go_wp2_with (first | (go_at_call 50; refine (ex_gr (rclass_any _ _ _ _ _ h0 h1 _)).mono ?_; rw [hc]; rintro e w' ⟨rfl, hg⟩; replace HB := HB.gr hg; replace HG := HG.trans hg; clear hg; obtain ⟨c0, c1, c2, c3, c4⟩ := HB.cells) | (go_at_call 52; refine (ex_gr (rx_any _ _ _ _ _ h0 h1 _)).mono ?_; rintro e w' ⟨rfl, hg⟩; replace HB := HB.gr hg; replace HG := HG.trans hg; clear hg; obtain ⟨c0, c1, c2, c3, c4⟩ := HB.cells) | (go_at_call 53; refine (ex_gr (is_any _ _ _ _ _ _ _ _ _ _)).mono ?_; rintro e w' ⟨rfl, hg⟩; replace HB := HB.gr hg; replace HG := HG.trans hg; clear hg; obtain ⟨c0, c1, c2, c3, c4⟩ := HB.cells) | (go_at_call 51; refine (ex_gr (rcode_any _ _ _ _ _ h0 h1 _)).mono ?_; rintro e w' ⟨rfl, hg⟩; replace HB := HB.gr hg; replace HG := HG.trans hg; clear hg; obtain ⟨c0, c1, c2, c3, c4⟩ := HB.cells) | (go_at_call 54; refine (rjumps_any _ _ _ _ _ h0 h1 d0 d1 s0 s1 _).mono ?_; rintro e w' ⟨rfl, hg⟩; replace HB := HB.gr hg; replace HG := HG.trans hg; clear hg; obtain ⟨c0, c1, c2, c3, c4⟩ := HB.cells))
  all_goals go_returns
  all_goals (refine ⟨ret_u8 ?_, HG⟩; have e3 : (o / 32 * 32 = 96) = (o / 32 = 3) := (by apply propext; omega); (simp [rkV, hc]))

set_option maxHeartbeats 4000000 in
theorem rkind_4 (o d s f i : Int) (h0 : 0 ≤ o) (h1 : o ≤ 255) (d0 : 0 ≤ d) (d1 : d ≤ 255) (s0 : 0 ≤ s) (s1 : s ≤ 255) (hc : o % 8 = 4) (q1 q2 q3 q4 : Bool) (e1 : decide (12 < o / 16) = q1) (e2 : (o / 16 == 8) = q2) (e4 : (d != 10) = q4) (e5 : xB o = q3) (w : World) : Calls Tryz.prog 24 #[ins o d s f i] w fun e w' => e = .returned (.int .u8 (rkV o d s f i)) ∧ Gr w w' := by
  cases q1 <;> cases q2 <;> cases q3 <;> cases q4
  all_goals (
    have hm : bits .and .u8 o 224 = o / 32 * 32 := and224 o h0 h1
    go_enter Tryz.func24, Tryz.ntmps24
    go_upto_region 1 with fail
    have HG : Gr w (w.alloc (Obj.cells #[.int .u8 o, .int .u8 d, .int .u8 s, .int .i16 f, .int .i32 i] 53)) := gr1 _ _ _
    have HB := At5.new w o d s f i
    generalize (w.alloc (Obj.cells #[.int .u8 o, .int .u8 d, .int .u8 s, .int .i16 f, .int .i32 i] 53)) = W at HG HB ⊢
    generalize w.heap.size = B at HB ⊢
    obtain ⟨c0, c1, c2, c3, c4⟩ := HB.cells
    go_upto_region 8 with (first | (go_at_call 50; refine (ex_gr (rclass_any _ _ _ _ _ h0 h1 _)).mono ?_; rw [hc]; rintro e w' ⟨rfl, hg⟩; replace HB := HB.gr hg; replace HG := HG.trans hg; clear hg; obtain ⟨c0, c1, c2, c3, c4⟩ := HB.cells) | (go_at_call 51; refine (ex_gr (rcode_any _ _ _ _ _ h0 h1 _)).mono ?_; rintro e w' ⟨rfl, hg⟩; replace HB := HB.gr hg; replace HG := HG.trans hg; clear hg; obtain ⟨c0, c1, c2, c3, c4⟩ := HB.cells))
    generalize w' = W at HG HB c0 c1 c2 c3 c4 ⊢
    have c := fun p => (HB.all p).1
    have c' := fun p => (HB.all p).2.1
    have c'' := fun p => (HB.all p).2.2.1
    have c3' := fun p => (HB.all p).2.2.2.1
    have c4' := fun p => (HB.all p).2.2.2.2
    have hne : Nonempty (GrBy W) := ⟨⟨W, Gr.refl W⟩⟩
    refine wp_region_gr (by kernel_rfl) (by kernel_rfl) ?_
    repeat (first
      | go_big_quiet_skip
      | (go_big_quiet_want; go_big_quiet_op; first
        | go_big_quiet_on
        | (apply Exists.intro
           refine ⟨fun p => ?_, ?_⟩
           · first
             | (go_at_call 52; exact calls_gr ((e5 ▸ ex_gr (rx_any _ _ _ _ _ h0 h1 _))))
             | (go_at_call 51; exact calls_gr (ex_gr (rcode_any _ _ _ _ _ h0 h1 _)))
             | (go_at_call 53; exact calls_gr (ex_gr (is_any _ _ _ _ _ _ _ _ _ _)))
           go_big_quiet_on)))
    refine wpQuiet_nil ?_
    intro _ hw'
    obtain ⟨⟨wq, hq⟩, rfl⟩ := hw'
    replace HB := HB.gr hq; replace HG := HG.trans hq; clear c c' c'' c3' c4' hne c0 c1 c2 c3 c4 hq
    obtain ⟨c0, c1, c2, c3, c4⟩ := HB.cells
  
    go_wp2
    all_goals go_returns
    all_goals (refine ⟨ret_u8 ?_, HG⟩; simp_all [rkV]))
set_option maxHeartbeats 4000000 in
theorem rkind_7 (o d s f i : Int) (h0 : 0 ≤ o) (h1 : o ≤ 255) (d0 : 0 ≤ d) (d1 : d ≤ 255) (s0 : 0 ≤ s) (s1 : s ≤ 255) (hc : o % 8 = 7) (q1 q2 q3 q4 : Bool) (e1 : decide (12 < o / 16) = q1) (e2 : (o / 16 == 8) = q2) (e4 : (d != 10) = q4) (e5 : xB o = q3) (w : World) : Calls Tryz.prog 24 #[ins o d s f i] w fun e w' => e = .returned (.int .u8 (rkV o d s f i)) ∧ Gr w w' := by
  cases q1 <;> cases q2 <;> cases q3 <;> cases q4
  all_goals (
    have hm : bits .and .u8 o 224 = o / 32 * 32 := and224 o h0 h1
    go_enter Tryz.func24, Tryz.ntmps24
    go_upto_region 1 with fail
    have HG : Gr w (w.alloc (Obj.cells #[.int .u8 o, .int .u8 d, .int .u8 s, .int .i16 f, .int .i32 i] 53)) := gr1 _ _ _
    have HB := At5.new w o d s f i
    generalize (w.alloc (Obj.cells #[.int .u8 o, .int .u8 d, .int .u8 s, .int .i16 f, .int .i32 i] 53)) = W at HG HB ⊢
    generalize w.heap.size = B at HB ⊢
    obtain ⟨c0, c1, c2, c3, c4⟩ := HB.cells
    go_upto_region 8 with (first | (go_at_call 50; refine (ex_gr (rclass_any _ _ _ _ _ h0 h1 _)).mono ?_; rw [hc]; rintro e w' ⟨rfl, hg⟩; replace HB := HB.gr hg; replace HG := HG.trans hg; clear hg; obtain ⟨c0, c1, c2, c3, c4⟩ := HB.cells) | (go_at_call 51; refine (ex_gr (rcode_any _ _ _ _ _ h0 h1 _)).mono ?_; rintro e w' ⟨rfl, hg⟩; replace HB := HB.gr hg; replace HG := HG.trans hg; clear hg; obtain ⟨c0, c1, c2, c3, c4⟩ := HB.cells))
    generalize w' = W at HG HB c0 c1 c2 c3 c4 ⊢
    have c := fun p => (HB.all p).1
    have c' := fun p => (HB.all p).2.1
    have c'' := fun p => (HB.all p).2.2.1
    have c3' := fun p => (HB.all p).2.2.2.1
    have c4' := fun p => (HB.all p).2.2.2.2
    have hne : Nonempty (GrBy W) := ⟨⟨W, Gr.refl W⟩⟩
    refine wp_region_gr (by kernel_rfl) (by kernel_rfl) ?_
    repeat (first
      | go_big_quiet_skip
      | (go_big_quiet_want; go_big_quiet_op; first
        | go_big_quiet_on
        | (apply Exists.intro
           refine ⟨fun p => ?_, ?_⟩
           · first
             | (go_at_call 52; exact calls_gr ((e5 ▸ ex_gr (rx_any _ _ _ _ _ h0 h1 _))))
             | (go_at_call 51; exact calls_gr (ex_gr (rcode_any _ _ _ _ _ h0 h1 _)))
             | (go_at_call 53; exact calls_gr (ex_gr (is_any _ _ _ _ _ _ _ _ _ _)))
           go_big_quiet_on)))
    refine wpQuiet_nil ?_
    intro _ hw'
    obtain ⟨⟨wq, hq⟩, rfl⟩ := hw'
    replace HB := HB.gr hq; replace HG := HG.trans hq; clear c c' c'' c3' c4' hne c0 c1 c2 c3 c4 hq
    obtain ⟨c0, c1, c2, c3, c4⟩ := HB.cells
  
    go_wp2
    all_goals go_returns
    all_goals (refine ⟨ret_u8 ?_, HG⟩; simp_all [rkV]))
theorem rk_eq (o d s f i : Int) (h0 : 0 ≤ o) (h1 : o ≤ 255) (d0 : 0 ≤ d) (d1 : d ≤ 255) (s0 : 0 ≤ s) (s1 : s ≤ 255) : rkV o d s f i = kV o d s f i := by
  have hm : o % 8 = 0 ∨ o % 8 = 1 ∨ o % 8 = 2 ∨ o % 8 = 3 ∨ o % 8 = 4 ∨ o % 8 = 5 ∨ o % 8 = 6 ∨ o % 8 = 7 := by omega
  rcases hm with hc | hc | hc | hc | hc | hc | hc | hc
  · by_cases h : o = 24 ∧ s ≤ 2
    · have hn : nmV o s = 9 := by simp [nmV, hc, h]
      simp only [rkV, hc, kV, hn, kIf, mayB, zB, isB]; simp; grind
    · have hn : nmV o s = 0 := by simp [nmV, hc, h]
      simp only [rkV, hc, kV, hn, kIf, mayB, zB, isB]; simp; grind
  · by_cases h : o / 32 = 3
    · have hn : nmV o s = 2 := by simp [nmV, hc, h]
      simp only [rkV, hc, kV, hn, kIf, mayB, zB, isB]; simp; grind
    · have hn : nmV o s = 0 := by simp [nmV, hc, h]
      simp only [rkV, hc, kV, hn, kIf, mayB, zB, isB]; simp; grind
  · by_cases h : o / 32 = 3
    · have hn : nmV o s = 3 := by simp [nmV, hc, h]
      simp only [rkV, hc, kV, hn, kIf, mayB, zB, isB]; simp; grind
    · have hn : nmV o s = 0 := by simp [nmV, hc, h]
      simp only [rkV, hc, kV, hn, kIf, mayB, zB, isB]; simp; grind
  · by_cases h : o / 32 = 3
    · have hn : nmV o s = 4 := by simp [nmV, hc, h]
      simp only [rkV, hc, kV, hn, kIf, mayB, zB, isB]; simp; grind
    · have hn : nmV o s = 0 := by simp [nmV, hc, h]
      simp only [rkV, hc, kV, hn, kIf, mayB, zB, isB]; simp; grind
  · by_cases h : o / 16 ≤ 12 ∧ ¬ (o / 16 = 8 ∧ xB o = true)
    · have hn : nmV o s = 1 := by simp only [nmV, hc, reckV, h]; simp
      cases hx : xB o <;> simp only [rkV, hc, kV, hn, kIf, mayB, zB, isB, hx] <;> simp <;> grind
    · have hn : nmV o s = 0 := by simp only [nmV, hc, reckV, h]; simp
      cases hx : xB o <;> simp only [rkV, hc, kV, hn, kIf, mayB, zB, isB, hx] <;> simp <;> grind
  · cases hA : askB (o / 16)
    · have hn : nmV o s = noAskV o s := by simp [nmV, hc, hA]
      cases hx : xB o
      · have hv : noAskV o s = (if o / 16 = 0 then 10 else if o / 16 = 9 then 8 else if o / 16 = 8 then callV s else 0) := by simp [noAskV, hx]
        by_cases g0 : o / 16 = 0
        · have hk : nmV o s = 10 := by rw [hn, hv]; simp [g0]
          simp only [rkV, rjV, hc, hA, hx, kV, hk, kIf, mayB, zB, isB]; simp; grind
        · by_cases g9 : o / 16 = 9
          · have hk : nmV o s = 8 := by rw [hn, hv]; simp [g9]
            simp only [rkV, rjV, hc, hA, hx, kV, hk, kIf, mayB, zB, isB]; simp; grind
          · by_cases g8 : o / 16 = 8
            · by_cases t0 : s = 0
              · have hk : nmV o s = 6 := by rw [hn, hv]; simp [g8, callV, t0]
                simp only [rkV, rjV, hc, hA, hx, kV, hk, kIf, mayB, zB, isB]; simp; grind
              · by_cases t1 : s = 1
                · have hk : nmV o s = 7 := by rw [hn, hv]; simp [g8, callV, t1]
                  simp only [rkV, rjV, hc, hA, hx, kV, hk, kIf, mayB, zB, isB]; simp; grind
                · have hk : nmV o s = 0 := by rw [hn, hv]; simp [g8, callV, t0, t1]
                  simp only [rkV, rjV, hc, hA, hx, kV, hk, kIf, mayB, zB, isB]; simp; grind
            · have hk : nmV o s = 0 := by rw [hn, hv]; simp [g0, g9, g8]
              simp only [rkV, rjV, hc, hA, hx, kV, hk, kIf, mayB, zB, isB]; simp; grind
      · have hk : nmV o s = 0 := by rw [hn]; simp [noAskV, hx]
        simp only [rkV, rjV, hc, hA, hx, kV, hk, kIf, mayB, zB, isB]; simp; try grind
    · have hk : nmV o s = 5 := by simp [nmV, hc, hA]
      have g : ¬ o / 16 = 0 ∧ ¬ o / 16 = 9 ∧ ¬ o / 16 = 8 := by simp [askB] at hA; omega
      cases hx : xB o <;> simp only [rkV, rjV, hc, hA, hx, kV, hk, kIf, mayB, zB, isB, g] <;> simp <;> grind
  · cases hA : askB (o / 16)
    · have hk : nmV o s = 0 := by simp [nmV, hc, hA]
      simp only [rkV, rjV, hc, hA, kV, hk, kIf, mayB, zB, isB]; simp; try grind
    · have hk : nmV o s = 5 := by simp [nmV, hc, hA]
      cases hx : xB o <;> simp only [rkV, rjV, hc, hA, hx, kV, hk, kIf, mayB, zB, isB] <;> simp <;> grind
  · by_cases h : o / 16 ≤ 12 ∧ ¬ (o / 16 = 8 ∧ xB o = true)
    · have hn : nmV o s = 1 := by simp only [nmV, hc, reckV, h]; simp
      cases hx : xB o <;> simp only [rkV, hc, kV, hn, kIf, mayB, zB, isB, hx] <;> simp <;> grind
    · have hn : nmV o s = 0 := by simp only [nmV, hc, reckV, h]; simp
      cases hx : xB o <;> simp only [rkV, hc, kV, hn, kIf, mayB, zB, isB, hx] <;> simp <;> grind
theorem rkind_any (o d s f i : Int) (h0 : 0 ≤ o) (h1 : o ≤ 255) (d0 : 0 ≤ d) (d1 : d ≤ 255) (s0 : 0 ≤ s) (s1 : s ≤ 255) (w : World) : Calls Tryz.prog 24 #[ins o d s f i] w fun e w' => e = .returned (.int .u8 (kV o d s f i)) ∧ Gr w w' := by
  rw [← rk_eq o d s f i h0 h1 d0 d1 s0 s1]
  have hm : o % 8 = 0 ∨ o % 8 = 1 ∨ o % 8 = 2 ∨ o % 8 = 3 ∨ o % 8 = 4 ∨ o % 8 = 5 ∨ o % 8 = 6 ∨ o % 8 = 7 := by omega
  rcases hm with hc | hc | hc | hc | hc | hc | hc | hc
  · exact rkind_0 _ _ _ _ _ h0 h1 d0 d1 s0 s1 hc w
  · exact rkind_1 _ _ _ _ _ h0 h1 d0 d1 s0 s1 hc w
  · exact rkind_2 _ _ _ _ _ h0 h1 d0 d1 s0 s1 hc w
  · exact rkind_3 _ _ _ _ _ h0 h1 d0 d1 s0 s1 hc w
  · exact rkind_4 _ _ _ _ _ h0 h1 d0 d1 s0 s1 hc _ _ _ _ rfl rfl rfl rfl w
  · exact rkind_5 _ _ _ _ _ h0 h1 d0 d1 s0 s1 hc w
  · exact rkind_6 _ _ _ _ _ h0 h1 d0 d1 s0 s1 hc w
  · exact rkind_7 _ _ _ _ _ h0 h1 d0 d1 s0 s1 hc _ _ _ _ rfl rfl rfl rfl w
end Go.Proofs.YtdmdmbcapjmnlaaGreat
