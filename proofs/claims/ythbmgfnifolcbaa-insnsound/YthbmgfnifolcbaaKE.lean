/- Towards the statements of package insn (layer 7): sizes, widths, what is written: contracts, the program's and the document's, for every instruction. -/
import Derived.Test.YthbmgfnifolcbaaKD
namespace Go.Proofs.Ythbmgfnifolcbaa
open Go.ChangeShapes Go.WideShapes Go.ChangeAt Go.RowKit
set_option linter.unusedVariables false
set_option linter.unusedSimpArgs false

def szK (k o : Int) : Int := if k = 2 ∨ k = 3 ∨ k = 4 then szV o else 0
def wideB (k o : Int) : Bool := (decide (k = 1) && decide (o % 8 = 7)) || (decide (k = 5) && decide (o % 8 = 5))
def wrV (k d : Int) : Int := if k = 1 ∨ k = 2 ∨ k = 9 then d else 0
def wrB (k : Int) : Bool := decide (k = 1) || (decide (k = 2) || (decide (k = 9) || (decide (k = 6) || decide (k = 7))))
theorem ret_wr {a c : Int} {b e : Bool} (h : a = c) (g : b = e) : Ending.returned (.tuple #[.int .u8 a, .bool b]) = .returned (.tuple #[.int .u8 c, .bool e]) := by rw [h, g]
theorem isize_any (o d s f i : Int) (h0 : 0 ≤ o) (h1 : o ≤ 255) (d0 : 0 ≤ d) (d1 : d ≤ 255) (s0 : 0 ≤ s) (s1 : s ≤ 255) (w : World) : Calls Try.prog 17 #[ins o d s f i] w fun e w' => e = .returned (.int .i64 (szK (kV o d s f i) o)) ∧ Gr w w' := by
  go_enter Try.func17, Try.ntmps17
  go_upto_region 1 with fail
  have HG : Gr w (w.alloc (Obj.cells #[.int .u8 o, .int .u8 d, .int .u8 s, .int .i16 f, .int .i32 i] 24)) := gr1 _ _ _
  have HB := At5.new w o d s f i
  generalize (w.alloc (Obj.cells #[.int .u8 o, .int .u8 d, .int .u8 s, .int .i16 f, .int .i32 i] 24)) = W at HG HB ⊢
  generalize w.heap.size = B at HB ⊢
  obtain ⟨c0, c1, c2, c3, c4⟩ := HB.cells
  go_wp2_with (first | (go_at_call 13; refine (kind_any _ _ _ _ _ h0 h1 d0 d1 s0 s1 _).mono ?_; rintro e w' ⟨rfl, hg⟩; replace HB := HB.gr hg; replace HG := HG.trans hg; clear hg; obtain ⟨c0, c1, c2, c3, c4⟩ := HB.cells) | (go_at_call 38; refine (same_gr (sizeOf_any _ h0 h1 _)).mono ?_; rintro e w' ⟨rfl, hg⟩; replace HB := HB.gr hg; replace HG := HG.trans hg; clear hg; obtain ⟨c0, c1, c2, c3, c4⟩ := HB.cells))
  all_goals go_returns
  all_goals (refine ⟨ret_i64 ?_, HG⟩; grind [szK])
theorem irsize_any (o d s f i : Int) (h0 : 0 ≤ o) (h1 : o ≤ 255) (d0 : 0 ≤ d) (d1 : d ≤ 255) (s0 : 0 ≤ s) (s1 : s ≤ 255) (w : World) : Calls Try.prog 18 #[ins o d s f i] w fun e w' => e = .returned (.int .i64 (szK (kV o d s f i) o)) ∧ Gr w w' := by
  go_enter Try.func18, Try.ntmps18
  go_upto_region 1 with fail
  have HG : Gr w (w.alloc (Obj.cells #[.int .u8 o, .int .u8 d, .int .u8 s, .int .i16 f, .int .i32 i] 24)) := gr1 _ _ _
  have HB := At5.new w o d s f i
  generalize (w.alloc (Obj.cells #[.int .u8 o, .int .u8 d, .int .u8 s, .int .i16 f, .int .i32 i] 24)) = W at HG HB ⊢
  generalize w.heap.size = B at HB ⊢
  obtain ⟨c0, c1, c2, c3, c4⟩ := HB.cells
  go_wp2_with (first | (go_at_call 14; refine (rkind_any _ _ _ _ _ h0 h1 d0 d1 s0 s1 _).mono ?_; rintro e w' ⟨rfl, hg⟩; replace HB := HB.gr hg; replace HG := HG.trans hg; clear hg; obtain ⟨c0, c1, c2, c3, c4⟩ := HB.cells))
  all_goals go_returns
  all_goals (refine ⟨ret_i64 ?_, HG⟩; grind [szK, szV])
theorem wide_any (o d s f i : Int) (h0 : 0 ≤ o) (h1 : o ≤ 255) (d0 : 0 ≤ d) (d1 : d ≤ 255) (s0 : 0 ≤ s) (s1 : s ≤ 255) (w : World) : Calls Try.prog 19 #[ins o d s f i] w fun e w' => e = .returned (.bool (wideB (kV o d s f i) o)) ∧ Gr w w' := by
  go_enter Try.func19, Try.ntmps19
  go_upto_region 1 with fail
  have HG : Gr w (w.alloc (Obj.cells #[.int .u8 o, .int .u8 d, .int .u8 s, .int .i16 f, .int .i32 i] 24)) := gr1 _ _ _
  have HB := At5.new w o d s f i
  generalize (w.alloc (Obj.cells #[.int .u8 o, .int .u8 d, .int .u8 s, .int .i16 f, .int .i32 i] 24)) = W at HG HB ⊢
  generalize w.heap.size = B at HB ⊢
  obtain ⟨c0, c1, c2, c3, c4⟩ := HB.cells
  go_wp2_with (first | (go_at_call 13; refine (kind_any _ _ _ _ _ h0 h1 d0 d1 s0 s1 _).mono ?_; rintro e w' ⟨rfl, hg⟩; replace HB := HB.gr hg; replace HG := HG.trans hg; clear hg; obtain ⟨c0, c1, c2, c3, c4⟩ := HB.cells) | (go_at_call 39; refine (same_gr (classOf_any _ h0 h1 _)).mono ?_; rintro e w' ⟨rfl, hg⟩; replace HB := HB.gr hg; replace HG := HG.trans hg; clear hg; obtain ⟨c0, c1, c2, c3, c4⟩ := HB.cells))
  all_goals go_returns
  all_goals (refine ⟨ret_bool ?_, HG⟩; grind [wideB])
theorem rwide_any (o d s f i : Int) (h0 : 0 ≤ o) (h1 : o ≤ 255) (d0 : 0 ≤ d) (d1 : d ≤ 255) (s0 : 0 ≤ s) (s1 : s ≤ 255) (w : World) : Calls Try.prog 20 #[ins o d s f i] w fun e w' => e = .returned (.bool (wideB (kV o d s f i) o)) ∧ Gr w w' := by
  go_enter Try.func20, Try.ntmps20
  go_upto_region 1 with fail
  have HG : Gr w (w.alloc (Obj.cells #[.int .u8 o, .int .u8 d, .int .u8 s, .int .i16 f, .int .i32 i] 24)) := gr1 _ _ _
  have HB := At5.new w o d s f i
  generalize (w.alloc (Obj.cells #[.int .u8 o, .int .u8 d, .int .u8 s, .int .i16 f, .int .i32 i] 24)) = W at HG HB ⊢
  generalize w.heap.size = B at HB ⊢
  obtain ⟨c0, c1, c2, c3, c4⟩ := HB.cells
  go_wp2_with (first | (go_at_call 14; refine (rkind_any _ _ _ _ _ h0 h1 d0 d1 s0 s1 _).mono ?_; rintro e w' ⟨rfl, hg⟩; replace HB := HB.gr hg; replace HG := HG.trans hg; clear hg; obtain ⟨c0, c1, c2, c3, c4⟩ := HB.cells) | (go_at_call 34; refine (ex_gr (rclass_any _ _ _ _ _ h0 h1 _)).mono ?_; rintro e w' ⟨rfl, hg⟩; replace HB := HB.gr hg; replace HG := HG.trans hg; clear hg; obtain ⟨c0, c1, c2, c3, c4⟩ := HB.cells))
  all_goals go_returns
  all_goals (refine ⟨ret_bool ?_, HG⟩; grind [wideB])
theorem writes_any (o d s f i : Int) (h0 : 0 ≤ o) (h1 : o ≤ 255) (d0 : 0 ≤ d) (d1 : d ≤ 255) (s0 : 0 ≤ s) (s1 : s ≤ 255) (w : World) : Calls Try.prog 21 #[ins o d s f i] w fun e w' => e = .returned (.tuple #[.int .u8 (wrV (kV o d s f i) d), .bool (wrB (kV o d s f i))]) ∧ Gr w w' := by
  go_enter Try.func21, Try.ntmps21
  go_upto_region 1 with fail
  have HG : Gr w (w.alloc (Obj.cells #[.int .u8 o, .int .u8 d, .int .u8 s, .int .i16 f, .int .i32 i] 24)) := gr1 _ _ _
  have HB := At5.new w o d s f i
  generalize (w.alloc (Obj.cells #[.int .u8 o, .int .u8 d, .int .u8 s, .int .i16 f, .int .i32 i] 24)) = W at HG HB ⊢
  generalize w.heap.size = B at HB ⊢
  obtain ⟨c0, c1, c2, c3, c4⟩ := HB.cells
  go_wp2_with (first | (go_at_call 13; refine (kind_any _ _ _ _ _ h0 h1 d0 d1 s0 s1 _).mono ?_; rintro e w' ⟨rfl, hg⟩; replace HB := HB.gr hg; replace HG := HG.trans hg; clear hg; obtain ⟨c0, c1, c2, c3, c4⟩ := HB.cells))
  all_goals go_returns
  all_goals (refine ⟨ret_wr ?_ ?_, HG⟩; all_goals grind [wrV, wrB])
theorem rwrites_any (o d s f i : Int) (h0 : 0 ≤ o) (h1 : o ≤ 255) (d0 : 0 ≤ d) (d1 : d ≤ 255) (s0 : 0 ≤ s) (s1 : s ≤ 255) (w : World) : Calls Try.prog 22 #[ins o d s f i] w fun e w' => e = .returned (.tuple #[.int .u8 (wrV (kV o d s f i) d), .bool (wrB (kV o d s f i))]) ∧ Gr w w' := by
  go_enter Try.func22, Try.ntmps22
  go_upto_region 1 with fail
  have HG : Gr w (w.alloc (Obj.cells #[.int .u8 o, .int .u8 d, .int .u8 s, .int .i16 f, .int .i32 i] 24)) := gr1 _ _ _
  have HB := At5.new w o d s f i
  generalize (w.alloc (Obj.cells #[.int .u8 o, .int .u8 d, .int .u8 s, .int .i16 f, .int .i32 i] 24)) = W at HG HB ⊢
  generalize w.heap.size = B at HB ⊢
  obtain ⟨c0, c1, c2, c3, c4⟩ := HB.cells
  go_wp2_with (first | (go_at_call 14; refine (rkind_any _ _ _ _ _ h0 h1 d0 d1 s0 s1 _).mono ?_; rintro e w' ⟨rfl, hg⟩; replace HB := HB.gr hg; replace HG := HG.trans hg; clear hg; obtain ⟨c0, c1, c2, c3, c4⟩ := HB.cells))
  all_goals go_returns
  all_goals (refine ⟨ret_wr ?_ ?_, HG⟩; all_goals grind [wrV, wrB])
end Go.Proofs.Ythbmgfnifolcbaa
