/- Towards the statements of package insn (layer 7): kinds: contracts of Kind, the program's, for every instruction. -/
import Derived.Test.YtdmdmbcapjmnlabKA
namespace Go.Proofs.Ytdmdmbcapjmnlab
open Go.ChangeShapes Go.WideShapes Go.ChangeAt Go.RowKit
set_option linter.unusedVariables false
set_option maxRecDepth 20000
set_option linter.unusedSimpArgs false

theorem wo_x (k : Int) (o d s f i : Int) (h0 : 0 ≤ o) (h1 : o ≤ 255) (hx : xB o = true) (w : World) : Calls Try.prog 76 #[.int .u8 k, ins o d s f i] w fun e w' => e = .returned (.agg #[.int .u8 o, .int .u8 d, .int .u8 0, .int .i16 f, .int .i32 i]) ∧ w' = (w.alloc (.cells #[.int .u8 o, .int .u8 d, .int .u8 0, .int .i16 f, .int .i32 i] 30)).alloc (.cells #[.int .u8 o, .int .u8 d, .int .u8 0, .int .i16 f, .int .i32 i] 30) := by
  go_enter Try.func76, Try.ntmps76
  go_wp2_with (first | (go_at_call 91; refine (hasX_any _ h0 h1 _).mono ?_; rw [hx]; rintro e w' ⟨rfl, hw⟩; rw [hw]; clear hw w'))
  all_goals go_returns
  all_goals exact ⟨rfl, rfl⟩
theorem wo_neg (o d s f i : Int) (h0 : 0 ≤ o) (h1 : o ≤ 255) (hx : xB o = false) (hc : o / 16 = 8) (w : World) : Calls Try.prog 76 #[.int .u8 1, ins o d s f i] w fun e w' => e = .returned (.agg #[.int .u8 o, .int .u8 d, .int .u8 s, .int .i16 f, .int .i32 i]) ∧ w' = ((w.alloc (.cells #[.int .u8 o, .int .u8 d, .int .u8 s, .int .i16 f, .int .i32 i] 30)).alloc (.cells #[.int .u8 o, .int .u8 d, .int .u8 s, .int .i16 f, .int .i32 i] 30)).alloc (.cells #[.int .u8 o, .int .u8 d, .int .u8 s, .int .i16 f, .int .i32 i] 30) := by
  go_enter Try.func76, Try.ntmps76
  go_wp2_with (first | (go_at_call 91; refine (hasX_any _ h0 h1 _).mono ?_; rw [hx]; rintro e w' ⟨rfl, hw⟩; rw [hw]; clear hw w') | (go_at_call 74; refine (code_any _ _ _ _ _ h0 h1 _).mono ?_; rw [hc]; rintro e w' ⟨rfl, rfl⟩))
  all_goals go_returns
  all_goals exact ⟨rfl, rfl⟩
theorem wo_alu (o d s f i : Int) (h0 : 0 ≤ o) (h1 : o ≤ 255) (hx : xB o = false) (hc : (o / 16 == 8) = false) (w : World) : Calls Try.prog 76 #[.int .u8 1, ins o d s f i] w fun e w' => e = .returned (.agg #[.int .u8 o, .int .u8 d, .int .u8 s, .int .i16 f, .int .i32 0]) ∧ w' = ((w.alloc (.cells #[.int .u8 o, .int .u8 d, .int .u8 s, .int .i16 f, .int .i32 0] 30)).alloc (.cells #[.int .u8 o, .int .u8 d, .int .u8 s, .int .i16 f, .int .i32 0] 30)).alloc (.cells #[.int .u8 o, .int .u8 d, .int .u8 s, .int .i16 f, .int .i32 i] 30) := by
  go_enter Try.func76, Try.ntmps76
  go_wp2_with (first | (go_at_call 91; refine (hasX_any _ h0 h1 _).mono ?_; rw [hx]; rintro e w' ⟨rfl, hw⟩; rw [hw]; clear hw w') | (go_at_call 74; refine (code_any _ _ _ _ _ h0 h1 _).mono ?_; rintro e w' ⟨rfl, rfl⟩))
  all_goals go_returns
  all_goals exact ⟨rfl, rfl⟩
theorem wo_jmp (o d s f i : Int) (h0 : 0 ≤ o) (h1 : o ≤ 255) (hx : xB o = false) (w : World) : Calls Try.prog 76 #[.int .u8 5, ins o d s f i] w fun e w' => e = .returned (.agg #[.int .u8 o, .int .u8 d, .int .u8 s, .int .i16 f, .int .i32 0]) ∧ w' = (w.alloc (.cells #[.int .u8 o, .int .u8 d, .int .u8 s, .int .i16 f, .int .i32 0] 30)).alloc (.cells #[.int .u8 o, .int .u8 d, .int .u8 s, .int .i16 f, .int .i32 0] 30) := by
  go_enter Try.func76, Try.ntmps76
  go_wp2_with (first | (go_at_call 91; refine (hasX_any _ h0 h1 _).mono ?_; rw [hx]; rintro e w' ⟨rfl, hw⟩; rw [hw]; clear hw w'))
  all_goals go_returns
  all_goals exact ⟨rfl, rfl⟩
theorem un_5x (o d s f i : Int) (h0 : 0 ≤ o) (h1 : o ≤ 255) (hx : xB o = true) (w : World) : Calls Try.prog 58 #[.int .u8 5, ins o d s f i] w fun e w' => e = .returned (.agg #[.int .u8 0, .int .u8 0, .int .u8 0, .int .i16 0, .int .i32 i]) ∧ Gr w w' := by
  go_enter Try.func58, Try.ntmps58
  go_wp2_with (first | (go_at_call 76; refine (wo_x _ _ _ _ _ _ h0 h1 hx _).mono ?_; rintro e w' ⟨rfl, rfl⟩))
  all_goals go_returns
  all_goals exact ⟨rfl, by go_grown, by go_grown⟩
theorem un_5n (o d s f i : Int) (h0 : 0 ≤ o) (h1 : o ≤ 255) (hx : xB o = false) (w : World) : Calls Try.prog 58 #[.int .u8 5, ins o d s f i] w fun e w' => e = .returned (.agg #[.int .u8 0, .int .u8 0, .int .u8 s, .int .i16 0, .int .i32 0]) ∧ Gr w w' := by
  go_enter Try.func58, Try.ntmps58
  go_wp2_with (first | (go_at_call 76; refine (wo_jmp _ _ _ _ _ h0 h1 hx _).mono ?_; rintro e w' ⟨rfl, rfl⟩))
  all_goals go_returns
  all_goals exact ⟨rfl, by go_grown, by go_grown⟩
theorem un_1x (o d s f i : Int) (h0 : 0 ≤ o) (h1 : o ≤ 255) (hx : xB o = true) (w : World) : Calls Try.prog 58 #[.int .u8 1, ins o d s f i] w fun e w' => e = .returned (.agg #[.int .u8 0, .int .u8 0, .int .u8 0, .int .i16 f, .int .i32 i]) ∧ Gr w w' := by
  go_enter Try.func58, Try.ntmps58
  go_wp2_with (first | (go_at_call 76; refine (wo_x _ _ _ _ _ _ h0 h1 hx _).mono ?_; rintro e w' ⟨rfl, rfl⟩))
  all_goals go_returns
  all_goals exact ⟨rfl, by go_grown, by go_grown⟩
theorem un_1g (o d s f i : Int) (h0 : 0 ≤ o) (h1 : o ≤ 255) (hx : xB o = false) (hc : o / 16 = 8) (w : World) : Calls Try.prog 58 #[.int .u8 1, ins o d s f i] w fun e w' => e = .returned (.agg #[.int .u8 0, .int .u8 0, .int .u8 s, .int .i16 f, .int .i32 i]) ∧ Gr w w' := by
  go_enter Try.func58, Try.ntmps58
  go_wp2_with (first | (go_at_call 76; refine (wo_neg _ _ _ _ _ h0 h1 hx hc _).mono ?_; rintro e w' ⟨rfl, rfl⟩))
  all_goals go_returns
  all_goals exact ⟨rfl, by go_grown, by go_grown⟩
theorem un_1n (o d s f i : Int) (h0 : 0 ≤ o) (h1 : o ≤ 255) (hx : xB o = false) (hc : (o / 16 == 8) = false) (w : World) : Calls Try.prog 58 #[.int .u8 1, ins o d s f i] w fun e w' => e = .returned (.agg #[.int .u8 0, .int .u8 0, .int .u8 s, .int .i16 f, .int .i32 0]) ∧ Gr w w' := by
  go_enter Try.func58, Try.ntmps58
  go_wp2_with (first | (go_at_call 76; refine (wo_alu _ _ _ _ _ h0 h1 hx hc _).mono ?_; rintro e w' ⟨rfl, rfl⟩))
  all_goals go_returns
  all_goals exact ⟨rfl, by go_grown, by go_grown⟩
theorem un_2 (o d s f i : Int) (h0 : 0 ≤ o) (h1 : o ≤ 255) (w : World) : Calls Try.prog 58 #[.int .u8 2, ins o d s f i] w fun e w' => e = .returned (.agg #[.int .u8 0, .int .u8 0, .int .u8 0, .int .i16 0, .int .i32 i]) ∧ Gr w w' := by
  go_enter Try.func58, Try.ntmps58
  go_wp2
  all_goals go_returns
  all_goals exact ⟨rfl, by go_grown, by go_grown⟩
theorem un_4 (o d s f i : Int) (h0 : 0 ≤ o) (h1 : o ≤ 255) (w : World) : Calls Try.prog 58 #[.int .u8 4, ins o d s f i] w fun e w' => e = .returned (.agg #[.int .u8 0, .int .u8 0, .int .u8 0, .int .i16 0, .int .i32 i]) ∧ Gr w w' := by
  go_enter Try.func58, Try.ntmps58
  go_wp2
  all_goals go_returns
  all_goals exact ⟨rfl, by go_grown, by go_grown⟩
theorem un_3 (o d s f i : Int) (h0 : 0 ≤ o) (h1 : o ≤ 255) (w : World) : Calls Try.prog 58 #[.int .u8 3, ins o d s f i] w fun e w' => e = .returned (.agg #[.int .u8 0, .int .u8 0, .int .u8 s, .int .i16 0, .int .i32 0]) ∧ Gr w w' := by
  go_enter Try.func58, Try.ntmps58
  go_wp2
  all_goals go_returns
  all_goals exact ⟨rfl, by go_grown, by go_grown⟩
theorem un_10 (o d s f i : Int) (h0 : 0 ≤ o) (h1 : o ≤ 255) (w : World) : Calls Try.prog 58 #[.int .u8 10, ins o d s f i] w fun e w' => e = .returned (.agg #[.int .u8 0, .int .u8 d, .int .u8 s, .int .i16 0, .int .i32 i]) ∧ Gr w w' := by
  go_enter Try.func58, Try.ntmps58
  go_wp2
  all_goals go_returns
  all_goals exact ⟨rfl, by go_grown, by go_grown⟩
theorem un_9 (o d s f i : Int) (h0 : 0 ≤ o) (h1 : o ≤ 255) (w : World) : Calls Try.prog 58 #[.int .u8 9, ins o d s f i] w fun e w' => e = .returned (.agg #[.int .u8 0, .int .u8 0, .int .u8 0, .int .i16 f, .int .i32 0]) ∧ Gr w w' := by
  go_enter Try.func58, Try.ntmps58
  go_wp2
  all_goals go_returns
  all_goals exact ⟨rfl, by go_grown, by go_grown⟩
theorem un_6 (o d s f i : Int) (h0 : 0 ≤ o) (h1 : o ≤ 255) (w : World) : Calls Try.prog 58 #[.int .u8 6, ins o d s f i] w fun e w' => e = .returned (.agg #[.int .u8 0, .int .u8 d, .int .u8 0, .int .i16 f, .int .i32 0]) ∧ Gr w w' := by
  go_enter Try.func58, Try.ntmps58
  go_wp2
  all_goals go_returns
  all_goals exact ⟨rfl, by go_grown, by go_grown⟩
theorem un_7 (o d s f i : Int) (h0 : 0 ≤ o) (h1 : o ≤ 255) (w : World) : Calls Try.prog 58 #[.int .u8 7, ins o d s f i] w fun e w' => e = .returned (.agg #[.int .u8 0, .int .u8 d, .int .u8 0, .int .i16 f, .int .i32 0]) ∧ Gr w w' := by
  go_enter Try.func58, Try.ntmps58
  go_wp2
  all_goals go_returns
  all_goals exact ⟨rfl, by go_grown, by go_grown⟩
theorem un_8 (o d s f i : Int) (h0 : 0 ≤ o) (h1 : o ≤ 255) (w : World) : Calls Try.prog 58 #[.int .u8 8, ins o d s f i] w fun e w' => e = .returned (.agg #[.int .u8 0, .int .u8 d, .int .u8 s, .int .i16 f, .int .i32 i]) ∧ Gr w w' := by
  go_enter Try.func58, Try.ntmps58
  go_wp2
  all_goals go_returns
  all_goals exact ⟨rfl, by go_grown, by go_grown⟩
theorem un_0 (o d s f i : Int) (h0 : 0 ≤ o) (h1 : o ≤ 255) (w : World) : Calls Try.prog 58 #[.int .u8 0, ins o d s f i] w fun e w' => e = .returned (.agg #[.int .u8 0, .int .u8 d, .int .u8 s, .int .i16 f, .int .i32 i]) ∧ Gr w w' := by
  go_enter Try.func58, Try.ntmps58
  go_wp2
  all_goals go_returns
  all_goals exact ⟨rfl, by go_grown, by go_grown⟩
def kIf (b : Bool) (k : Int) : Int := if b = true then k else 0
theorem kind_5x (o d s f i : Int) (h0 : 0 ≤ o) (h1 : o ≤ 255) (d0 : 0 ≤ d) (d1 : d ≤ 255) (s0 : 0 ≤ s) (s1 : s ≤ 255) (hx : xB o = true) (hn : nmV o s = 5) (hd : d < 11) (hs : s < 11) (w : World) : Calls Try.prog 40 #[ins o d s f i] w fun e w' => e = .returned (.int .u8 (kIf (mayB 5 d && (decide (i = 0))) 5)) ∧ Gr w w' := by
  go_enter Try.func40, Try.ntmps40
  go_wp2_with (first | (go_at_call 56; refine (named_any _ _ _ _ _ h0 h1 s0 s1 _).mono ?_; rw [hn]; rintro e w' ⟨rfl, hg⟩; obtain ⟨c0, c1, c2, c3, c4⟩ := box5 hg) | (go_at_call 57; refine (mayWrite_any _ _ d0 d1 _).mono ?_; rintro e w' ⟨rfl, hw⟩; rw [hw]; clear hw) | (go_at_call 58; refine (un_5x _ _ _ _ _ h0 h1 hx _).mono ?_; rintro e w' ⟨rfl, hg2⟩))
  all_goals go_returns
  all_goals (refine ⟨ret_u8 ?_, ?_⟩; (focus (simp_all [kIf])); (first | exact ((gr1 _ _ _).trans hg).trans hg2 | exact (gr1 _ _ _).trans hg | exact gr1 _ _ _))
theorem kind_5n (o d s f i : Int) (h0 : 0 ≤ o) (h1 : o ≤ 255) (d0 : 0 ≤ d) (d1 : d ≤ 255) (s0 : 0 ≤ s) (s1 : s ≤ 255) (hx : xB o = false) (hn : nmV o s = 5) (hd : d < 11) (hs : s < 11) (w : World) : Calls Try.prog 40 #[ins o d s f i] w fun e w' => e = .returned (.int .u8 (kIf (mayB 5 d && (decide (s = 0))) 5)) ∧ Gr w w' := by
  go_enter Try.func40, Try.ntmps40
  go_wp2_with (first | (go_at_call 56; refine (named_any _ _ _ _ _ h0 h1 s0 s1 _).mono ?_; rw [hn]; rintro e w' ⟨rfl, hg⟩; obtain ⟨c0, c1, c2, c3, c4⟩ := box5 hg) | (go_at_call 57; refine (mayWrite_any _ _ d0 d1 _).mono ?_; rintro e w' ⟨rfl, hw⟩; rw [hw]; clear hw) | (go_at_call 58; refine (un_5n _ _ _ _ _ h0 h1 hx _).mono ?_; rintro e w' ⟨rfl, hg2⟩))
  all_goals go_returns
  all_goals (refine ⟨ret_u8 ?_, ?_⟩; (focus (simp_all [kIf])); (first | exact ((gr1 _ _ _).trans hg).trans hg2 | exact (gr1 _ _ _).trans hg | exact gr1 _ _ _))
theorem kind_1x (o d s f i : Int) (h0 : 0 ≤ o) (h1 : o ≤ 255) (d0 : 0 ≤ d) (d1 : d ≤ 255) (s0 : 0 ≤ s) (s1 : s ≤ 255) (hx : xB o = true) (hn : nmV o s = 1) (hd : d < 11) (hs : s < 11) (w : World) : Calls Try.prog 40 #[ins o d s f i] w fun e w' => e = .returned (.int .u8 (kIf (mayB 1 d && (decide (f = 0) && decide (i = 0))) 1)) ∧ Gr w w' := by
  go_enter Try.func40, Try.ntmps40
  go_wp2_with (first | (go_at_call 56; refine (named_any _ _ _ _ _ h0 h1 s0 s1 _).mono ?_; rw [hn]; rintro e w' ⟨rfl, hg⟩; obtain ⟨c0, c1, c2, c3, c4⟩ := box5 hg) | (go_at_call 57; refine (mayWrite_any _ _ d0 d1 _).mono ?_; rintro e w' ⟨rfl, hw⟩; rw [hw]; clear hw) | (go_at_call 58; refine (un_1x _ _ _ _ _ h0 h1 hx _).mono ?_; rintro e w' ⟨rfl, hg2⟩))
  all_goals go_returns
  all_goals (refine ⟨ret_u8 ?_, ?_⟩; (focus (simp_all [kIf])); (first | exact ((gr1 _ _ _).trans hg).trans hg2 | exact (gr1 _ _ _).trans hg | exact gr1 _ _ _))
theorem kind_1g (o d s f i : Int) (h0 : 0 ≤ o) (h1 : o ≤ 255) (d0 : 0 ≤ d) (d1 : d ≤ 255) (s0 : 0 ≤ s) (s1 : s ≤ 255) (hx : xB o = false) (hc : o / 16 = 8) (hn : nmV o s = 1) (hd : d < 11) (hs : s < 11) (w : World) : Calls Try.prog 40 #[ins o d s f i] w fun e w' => e = .returned (.int .u8 (kIf (mayB 1 d && (decide (s = 0) && decide (f = 0) && decide (i = 0))) 1)) ∧ Gr w w' := by
  go_enter Try.func40, Try.ntmps40
  go_wp2_with (first | (go_at_call 56; refine (named_any _ _ _ _ _ h0 h1 s0 s1 _).mono ?_; rw [hn]; rintro e w' ⟨rfl, hg⟩; obtain ⟨c0, c1, c2, c3, c4⟩ := box5 hg) | (go_at_call 57; refine (mayWrite_any _ _ d0 d1 _).mono ?_; rintro e w' ⟨rfl, hw⟩; rw [hw]; clear hw) | (go_at_call 58; refine (un_1g _ _ _ _ _ h0 h1 hx hc _).mono ?_; rintro e w' ⟨rfl, hg2⟩))
  all_goals go_returns
  all_goals (refine ⟨ret_u8 ?_, ?_⟩; (focus (simp_all [kIf])); (first | exact ((gr1 _ _ _).trans hg).trans hg2 | exact (gr1 _ _ _).trans hg | exact gr1 _ _ _))
theorem kind_1n (o d s f i : Int) (h0 : 0 ≤ o) (h1 : o ≤ 255) (d0 : 0 ≤ d) (d1 : d ≤ 255) (s0 : 0 ≤ s) (s1 : s ≤ 255) (hx : xB o = false) (hc : (o / 16 == 8) = false) (hn : nmV o s = 1) (hd : d < 11) (hs : s < 11) (w : World) : Calls Try.prog 40 #[ins o d s f i] w fun e w' => e = .returned (.int .u8 (kIf (mayB 1 d && (decide (s = 0) && decide (f = 0))) 1)) ∧ Gr w w' := by
  go_enter Try.func40, Try.ntmps40
  go_wp2_with (first | (go_at_call 56; refine (named_any _ _ _ _ _ h0 h1 s0 s1 _).mono ?_; rw [hn]; rintro e w' ⟨rfl, hg⟩; obtain ⟨c0, c1, c2, c3, c4⟩ := box5 hg) | (go_at_call 57; refine (mayWrite_any _ _ d0 d1 _).mono ?_; rintro e w' ⟨rfl, hw⟩; rw [hw]; clear hw) | (go_at_call 58; refine (un_1n _ _ _ _ _ h0 h1 hx hc _).mono ?_; rintro e w' ⟨rfl, hg2⟩))
  all_goals go_returns
  all_goals (refine ⟨ret_u8 ?_, ?_⟩; (focus (simp_all [kIf])); (first | exact ((gr1 _ _ _).trans hg).trans hg2 | exact (gr1 _ _ _).trans hg | exact gr1 _ _ _))
theorem kind_2 (o d s f i : Int) (h0 : 0 ≤ o) (h1 : o ≤ 255) (d0 : 0 ≤ d) (d1 : d ≤ 255) (s0 : 0 ≤ s) (s1 : s ≤ 255) (hn : nmV o s = 2) (hd : d < 11) (hs : s < 11) (w : World) : Calls Try.prog 40 #[ins o d s f i] w fun e w' => e = .returned (.int .u8 (kIf (mayB 2 d && (decide (i = 0))) 2)) ∧ Gr w w' := by
  go_enter Try.func40, Try.ntmps40
  go_wp2_with (first | (go_at_call 56; refine (named_any _ _ _ _ _ h0 h1 s0 s1 _).mono ?_; rw [hn]; rintro e w' ⟨rfl, hg⟩; obtain ⟨c0, c1, c2, c3, c4⟩ := box5 hg) | (go_at_call 57; refine (mayWrite_any _ _ d0 d1 _).mono ?_; rintro e w' ⟨rfl, hw⟩; rw [hw]; clear hw) | (go_at_call 58; refine (un_2 _ _ _ _ _ h0 h1  _).mono ?_; rintro e w' ⟨rfl, hg2⟩))
  all_goals go_returns
  all_goals (refine ⟨ret_u8 ?_, ?_⟩; (focus (simp_all [kIf])); (first | exact ((gr1 _ _ _).trans hg).trans hg2 | exact (gr1 _ _ _).trans hg | exact gr1 _ _ _))
theorem kind_4 (o d s f i : Int) (h0 : 0 ≤ o) (h1 : o ≤ 255) (d0 : 0 ≤ d) (d1 : d ≤ 255) (s0 : 0 ≤ s) (s1 : s ≤ 255) (hn : nmV o s = 4) (hd : d < 11) (hs : s < 11) (w : World) : Calls Try.prog 40 #[ins o d s f i] w fun e w' => e = .returned (.int .u8 (kIf (mayB 4 d && (decide (i = 0))) 4)) ∧ Gr w w' := by
  go_enter Try.func40, Try.ntmps40
  go_wp2_with (first | (go_at_call 56; refine (named_any _ _ _ _ _ h0 h1 s0 s1 _).mono ?_; rw [hn]; rintro e w' ⟨rfl, hg⟩; obtain ⟨c0, c1, c2, c3, c4⟩ := box5 hg) | (go_at_call 57; refine (mayWrite_any _ _ d0 d1 _).mono ?_; rintro e w' ⟨rfl, hw⟩; rw [hw]; clear hw) | (go_at_call 58; refine (un_4 _ _ _ _ _ h0 h1  _).mono ?_; rintro e w' ⟨rfl, hg2⟩))
  all_goals go_returns
  all_goals (refine ⟨ret_u8 ?_, ?_⟩; (focus (simp_all [kIf])); (first | exact ((gr1 _ _ _).trans hg).trans hg2 | exact (gr1 _ _ _).trans hg | exact gr1 _ _ _))
theorem kind_3 (o d s f i : Int) (h0 : 0 ≤ o) (h1 : o ≤ 255) (d0 : 0 ≤ d) (d1 : d ≤ 255) (s0 : 0 ≤ s) (s1 : s ≤ 255) (hn : nmV o s = 3) (hd : d < 11) (hs : s < 11) (w : World) : Calls Try.prog 40 #[ins o d s f i] w fun e w' => e = .returned (.int .u8 (kIf (mayB 3 d && (decide (s = 0))) 3)) ∧ Gr w w' := by
  go_enter Try.func40, Try.ntmps40
  go_wp2_with (first | (go_at_call 56; refine (named_any _ _ _ _ _ h0 h1 s0 s1 _).mono ?_; rw [hn]; rintro e w' ⟨rfl, hg⟩; obtain ⟨c0, c1, c2, c3, c4⟩ := box5 hg) | (go_at_call 57; refine (mayWrite_any _ _ d0 d1 _).mono ?_; rintro e w' ⟨rfl, hw⟩; rw [hw]; clear hw) | (go_at_call 58; refine (un_3 _ _ _ _ _ h0 h1  _).mono ?_; rintro e w' ⟨rfl, hg2⟩))
  all_goals go_returns
  all_goals (refine ⟨ret_u8 ?_, ?_⟩; (focus (simp_all [kIf])); (first | exact ((gr1 _ _ _).trans hg).trans hg2 | exact (gr1 _ _ _).trans hg | exact gr1 _ _ _))
theorem kind_10 (o d s f i : Int) (h0 : 0 ≤ o) (h1 : o ≤ 255) (d0 : 0 ≤ d) (d1 : d ≤ 255) (s0 : 0 ≤ s) (s1 : s ≤ 255) (hn : nmV o s = 10) (hd : d < 11) (hs : s < 11) (w : World) : Calls Try.prog 40 #[ins o d s f i] w fun e w' => e = .returned (.int .u8 (kIf (mayB 10 d && (decide (d = 0) && decide (s = 0) && decide (i = 0))) 10)) ∧ Gr w w' := by
  go_enter Try.func40, Try.ntmps40
  go_wp2_with (first | (go_at_call 56; refine (named_any _ _ _ _ _ h0 h1 s0 s1 _).mono ?_; rw [hn]; rintro e w' ⟨rfl, hg⟩; obtain ⟨c0, c1, c2, c3, c4⟩ := box5 hg) | (go_at_call 57; refine (mayWrite_any _ _ d0 d1 _).mono ?_; rintro e w' ⟨rfl, hw⟩; rw [hw]; clear hw) | (go_at_call 58; refine (un_10 _ _ _ _ _ h0 h1  _).mono ?_; rintro e w' ⟨rfl, hg2⟩))
  all_goals go_returns
  all_goals (refine ⟨ret_u8 ?_, ?_⟩; (focus (simp_all [kIf])); (first | exact ((gr1 _ _ _).trans hg).trans hg2 | exact (gr1 _ _ _).trans hg | exact gr1 _ _ _))
theorem kind_9 (o d s f i : Int) (h0 : 0 ≤ o) (h1 : o ≤ 255) (d0 : 0 ≤ d) (d1 : d ≤ 255) (s0 : 0 ≤ s) (s1 : s ≤ 255) (hn : nmV o s = 9) (hd : d < 11) (hs : s < 11) (w : World) : Calls Try.prog 40 #[ins o d s f i] w fun e w' => e = .returned (.int .u8 (kIf (mayB 9 d && (decide (f = 0))) 9)) ∧ Gr w w' := by
  go_enter Try.func40, Try.ntmps40
  go_wp2_with (first | (go_at_call 56; refine (named_any _ _ _ _ _ h0 h1 s0 s1 _).mono ?_; rw [hn]; rintro e w' ⟨rfl, hg⟩; obtain ⟨c0, c1, c2, c3, c4⟩ := box5 hg) | (go_at_call 57; refine (mayWrite_any _ _ d0 d1 _).mono ?_; rintro e w' ⟨rfl, hw⟩; rw [hw]; clear hw) | (go_at_call 58; refine (un_9 _ _ _ _ _ h0 h1  _).mono ?_; rintro e w' ⟨rfl, hg2⟩))
  all_goals go_returns
  all_goals (refine ⟨ret_u8 ?_, ?_⟩; (focus (simp_all [kIf])); (first | exact ((gr1 _ _ _).trans hg).trans hg2 | exact (gr1 _ _ _).trans hg | exact gr1 _ _ _))
theorem kind_6 (o d s f i : Int) (h0 : 0 ≤ o) (h1 : o ≤ 255) (d0 : 0 ≤ d) (d1 : d ≤ 255) (s0 : 0 ≤ s) (s1 : s ≤ 255) (hn : nmV o s = 6) (hd : d < 11) (hs : s < 11) (w : World) : Calls Try.prog 40 #[ins o d s f i] w fun e w' => e = .returned (.int .u8 (kIf (mayB 6 d && (decide (d = 0) && decide (f = 0))) 6)) ∧ Gr w w' := by
  go_enter Try.func40, Try.ntmps40
  go_wp2_with (first | (go_at_call 56; refine (named_any _ _ _ _ _ h0 h1 s0 s1 _).mono ?_; rw [hn]; rintro e w' ⟨rfl, hg⟩; obtain ⟨c0, c1, c2, c3, c4⟩ := box5 hg) | (go_at_call 57; refine (mayWrite_any _ _ d0 d1 _).mono ?_; rintro e w' ⟨rfl, hw⟩; rw [hw]; clear hw) | (go_at_call 58; refine (un_6 _ _ _ _ _ h0 h1  _).mono ?_; rintro e w' ⟨rfl, hg2⟩))
  all_goals go_returns
  all_goals (refine ⟨ret_u8 ?_, ?_⟩; (focus (simp_all [kIf])); (first | exact ((gr1 _ _ _).trans hg).trans hg2 | exact (gr1 _ _ _).trans hg | exact gr1 _ _ _))
theorem kind_7 (o d s f i : Int) (h0 : 0 ≤ o) (h1 : o ≤ 255) (d0 : 0 ≤ d) (d1 : d ≤ 255) (s0 : 0 ≤ s) (s1 : s ≤ 255) (hn : nmV o s = 7) (hd : d < 11) (hs : s < 11) (w : World) : Calls Try.prog 40 #[ins o d s f i] w fun e w' => e = .returned (.int .u8 (kIf (mayB 7 d && (decide (d = 0) && decide (f = 0))) 7)) ∧ Gr w w' := by
  go_enter Try.func40, Try.ntmps40
  go_wp2_with (first | (go_at_call 56; refine (named_any _ _ _ _ _ h0 h1 s0 s1 _).mono ?_; rw [hn]; rintro e w' ⟨rfl, hg⟩; obtain ⟨c0, c1, c2, c3, c4⟩ := box5 hg) | (go_at_call 57; refine (mayWrite_any _ _ d0 d1 _).mono ?_; rintro e w' ⟨rfl, hw⟩; rw [hw]; clear hw) | (go_at_call 58; refine (un_7 _ _ _ _ _ h0 h1  _).mono ?_; rintro e w' ⟨rfl, hg2⟩))
  all_goals go_returns
  all_goals (refine ⟨ret_u8 ?_, ?_⟩; (focus (simp_all [kIf])); (first | exact ((gr1 _ _ _).trans hg).trans hg2 | exact (gr1 _ _ _).trans hg | exact gr1 _ _ _))
theorem kind_8 (o d s f i : Int) (h0 : 0 ≤ o) (h1 : o ≤ 255) (d0 : 0 ≤ d) (d1 : d ≤ 255) (s0 : 0 ≤ s) (s1 : s ≤ 255) (hn : nmV o s = 8) (hd : d < 11) (hs : s < 11) (w : World) : Calls Try.prog 40 #[ins o d s f i] w fun e w' => e = .returned (.int .u8 (kIf (mayB 8 d && (decide (d = 0) && decide (s = 0) && decide (f = 0) && decide (i = 0))) 8)) ∧ Gr w w' := by
  go_enter Try.func40, Try.ntmps40
  go_wp2_with (first | (go_at_call 56; refine (named_any _ _ _ _ _ h0 h1 s0 s1 _).mono ?_; rw [hn]; rintro e w' ⟨rfl, hg⟩; obtain ⟨c0, c1, c2, c3, c4⟩ := box5 hg) | (go_at_call 57; refine (mayWrite_any _ _ d0 d1 _).mono ?_; rintro e w' ⟨rfl, hw⟩; rw [hw]; clear hw) | (go_at_call 58; refine (un_8 _ _ _ _ _ h0 h1  _).mono ?_; rintro e w' ⟨rfl, hg2⟩))
  all_goals go_returns
  all_goals (refine ⟨ret_u8 ?_, ?_⟩; (focus (simp_all [kIf])); (first | exact ((gr1 _ _ _).trans hg).trans hg2 | exact (gr1 _ _ _).trans hg | exact gr1 _ _ _))
theorem kind_0 (o d s f i : Int) (h0 : 0 ≤ o) (h1 : o ≤ 255) (d0 : 0 ≤ d) (d1 : d ≤ 255) (s0 : 0 ≤ s) (s1 : s ≤ 255) (hn : nmV o s = 0) (hd : d < 11) (hs : s < 11) (w : World) : Calls Try.prog 40 #[ins o d s f i] w fun e w' => e = .returned (.int .u8 (kIf (mayB 0 d && (decide (d = 0) && decide (s = 0) && decide (f = 0) && decide (i = 0))) 0)) ∧ Gr w w' := by
  go_enter Try.func40, Try.ntmps40
  go_wp2_with (first | (go_at_call 56; refine (named_any _ _ _ _ _ h0 h1 s0 s1 _).mono ?_; rw [hn]; rintro e w' ⟨rfl, hg⟩; obtain ⟨c0, c1, c2, c3, c4⟩ := box5 hg) | (go_at_call 57; refine (mayWrite_any _ _ d0 d1 _).mono ?_; rintro e w' ⟨rfl, hw⟩; rw [hw]; clear hw) | (go_at_call 58; refine (un_0 _ _ _ _ _ h0 h1  _).mono ?_; rintro e w' ⟨rfl, hg2⟩))
  all_goals go_returns
  all_goals (refine ⟨ret_u8 ?_, ?_⟩; (focus (simp_all [kIf])); (first | exact ((gr1 _ _ _).trans hg).trans hg2 | exact (gr1 _ _ _).trans hg | exact gr1 _ _ _))
theorem kind_no (o d s f i : Int) (h0 : 0 ≤ o) (h1 : o ≤ 255) (d0 : 0 ≤ d) (d1 : d ≤ 255) (s0 : 0 ≤ s) (s1 : s ≤ 255) (hd : ¬ (d < 11 ∧ s < 11)) (w : World) : Calls Try.prog 40 #[ins o d s f i] w fun e w' => e = .returned (.int .u8 0) ∧ Gr w w' := by
  go_enter Try.func40, Try.ntmps40
  go_wp2
  all_goals first | (exfalso; omega) | skip
  all_goals go_returns
  all_goals exact ⟨rfl, gr1 _ _ _⟩
def zB (n o d s f i : Int) : Bool :=
  if n = 5 then (if xB o = true then decide (i = 0) else decide (s = 0))
  else if n = 1 then (if xB o = true then decide (f = 0) && decide (i = 0) else if o / 16 = 8 then decide (s = 0) && decide (f = 0) && decide (i = 0) else decide (s = 0) && decide (f = 0))
  else if n = 2 ∨ n = 4 then decide (i = 0) else if n = 3 then decide (s = 0) else if n = 10 then decide (d = 0) && decide (s = 0) && decide (i = 0) else if n = 9 then decide (f = 0)
  else if n = 6 ∨ n = 7 then decide (d = 0) && decide (f = 0) else decide (d = 0) && decide (s = 0) && decide (f = 0) && decide (i = 0)
/-- What an instruction is. -/
def kV (o d s f i : Int) : Int := if d < 11 ∧ s < 11 then kIf (mayB (nmV o s) d && zB (nmV o s) o d s f i) (nmV o s) else 0
theorem ite_P {P : Int → Prop} {c : Prop} [Decidable c] {a b : Int} (ha : P a) (hb : P b) : P (if c then a else b) := by split <;> assumption
def Is11 (n : Int) : Prop := n = 0 ∨ n = 1 ∨ n = 2 ∨ n = 3 ∨ n = 4 ∨ n = 5 ∨ n = 6 ∨ n = 7 ∨ n = 8 ∨ n = 9 ∨ n = 10
theorem nm_cases (o s : Int) : Is11 (nmV o s) := by
  simp only [nmV, reckV, noAskV, callV]
  repeat' apply ite_P
  all_goals simp [Is11]
theorem kV_eq {o d s f i n : Int} {b : Bool} (hn : nmV o s = n) (hd : d < 11) (hs : s < 11) (hb : zB n o d s f i = b) : kV o d s f i = kIf (mayB n d && b) n := by
  subst hn; subst hb; simp [kV, hd, hs]
theorem kind_any (o d s f i : Int) (h0 : 0 ≤ o) (h1 : o ≤ 255) (d0 : 0 ≤ d) (d1 : d ≤ 255) (s0 : 0 ≤ s) (s1 : s ≤ 255) (w : World) : Calls Try.prog 40 #[ins o d s f i] w fun e w' => e = .returned (.int .u8 (kV o d s f i)) ∧ Gr w w' := by
  by_cases hr : d < 11 ∧ s < 11
  · obtain ⟨hd, hs⟩ := hr
    rcases nm_cases o s with hn | hn | hn | hn | hn | hn | hn | hn | hn | hn | hn
    · rw [kV_eq (b := decide (d = 0) && decide (s = 0) && decide (f = 0) && decide (i = 0)) hn hd hs (by simp [zB])]; exact kind_0 _ _ _ _ _ h0 h1 d0 d1 s0 s1 hn hd hs w
    · cases hx : xB o with
      | true => rw [kV_eq (b := decide (f = 0) && decide (i = 0)) hn hd hs (by simp [zB, hx])]; exact kind_1x _ _ _ _ _ h0 h1 d0 d1 s0 s1 hx hn hd hs w
      | false =>
        by_cases hc : o / 16 = 8
        · rw [kV_eq (b := decide (s = 0) && decide (f = 0) && decide (i = 0)) hn hd hs (by simp [zB, hx, hc])]; exact kind_1g _ _ _ _ _ h0 h1 d0 d1 s0 s1 hx hc hn hd hs w
        · rw [kV_eq (b := decide (s = 0) && decide (f = 0)) hn hd hs (by simp [zB, hx, hc])]; exact kind_1n _ _ _ _ _ h0 h1 d0 d1 s0 s1 hx (by simp [hc]) hn hd hs w
    · rw [kV_eq (b := decide (i = 0)) hn hd hs (by simp [zB])]; exact kind_2 _ _ _ _ _ h0 h1 d0 d1 s0 s1 hn hd hs w
    · rw [kV_eq (b := decide (s = 0)) hn hd hs (by simp [zB])]; exact kind_3 _ _ _ _ _ h0 h1 d0 d1 s0 s1 hn hd hs w
    · rw [kV_eq (b := decide (i = 0)) hn hd hs (by simp [zB])]; exact kind_4 _ _ _ _ _ h0 h1 d0 d1 s0 s1 hn hd hs w
    · cases hx : xB o with
      | true => rw [kV_eq (b := decide (i = 0)) hn hd hs (by simp [zB, hx])]; exact kind_5x _ _ _ _ _ h0 h1 d0 d1 s0 s1 hx hn hd hs w
      | false => rw [kV_eq (b := decide (s = 0)) hn hd hs (by simp [zB, hx])]; exact kind_5n _ _ _ _ _ h0 h1 d0 d1 s0 s1 hx hn hd hs w
    · rw [kV_eq (b := decide (d = 0) && decide (f = 0)) hn hd hs (by simp [zB])]; exact kind_6 _ _ _ _ _ h0 h1 d0 d1 s0 s1 hn hd hs w
    · rw [kV_eq (b := decide (d = 0) && decide (f = 0)) hn hd hs (by simp [zB])]; exact kind_7 _ _ _ _ _ h0 h1 d0 d1 s0 s1 hn hd hs w
    · rw [kV_eq (b := decide (d = 0) && decide (s = 0) && decide (f = 0) && decide (i = 0)) hn hd hs (by simp [zB])]; exact kind_8 _ _ _ _ _ h0 h1 d0 d1 s0 s1 hn hd hs w
    · rw [kV_eq (b := decide (f = 0)) hn hd hs (by simp [zB])]; exact kind_9 _ _ _ _ _ h0 h1 d0 d1 s0 s1 hn hd hs w
    · rw [kV_eq (b := decide (d = 0) && decide (s = 0) && decide (i = 0)) hn hd hs (by simp [zB])]; exact kind_10 _ _ _ _ _ h0 h1 d0 d1 s0 s1 hn hd hs w
  · rw [kV, if_neg hr]; exact kind_no _ _ _ _ _ h0 h1 d0 d1 s0 s1 hr w
end Go.Proofs.Ytdmdmbcapjmnlab
