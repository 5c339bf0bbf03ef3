/- Towards the statements of package insn (layer 7): what an Op's bits tell: contracts of the small functions, the program's and the document's, for every argument. -/
import Derived.Test.YtdmdmbcapjmnlabParts
namespace Go.Proofs.Ytdmdmbcapjmnlab
open Go.ChangeShapes Go.WideShapes Go.ChangeAt Go.RowKit
set_option linter.unusedVariables false
set_option maxRecDepth 20000
set_option linter.unusedSimpArgs false

theorem fin256 {p : Int → Prop} [DecidablePred p] (h : ∀ n : Fin 256, p (n.val : Int)) (x : Int) (h0 : 0 ≤ x) (h1 : x ≤ 255) : p x := by
  obtain ⟨n, rfl⟩ := Int.eq_ofNat_of_zero_le h0
  exact h ⟨n, by omega⟩
theorem and7 (x : Int) (h0 : 0 ≤ x) (h1 : x ≤ 255) : bits .and .u8 x 7 = x % 8 := fin256 (p := fun x => bits .and .u8 x 7 = x % 8) (by decide +kernel) x h0 h1
theorem and8 (x : Int) (h0 : 0 ≤ x) (h1 : x ≤ 255) : bits .and .u8 x 8 = x / 8 % 2 * 8 := fin256 (p := fun x => bits .and .u8 x 8 = x / 8 % 2 * 8) (by decide +kernel) x h0 h1
theorem and224 (x : Int) (h0 : 0 ≤ x) (h1 : x ≤ 255) : bits .and .u8 x 224 = x / 32 * 32 := fin256 (p := fun x => bits .and .u8 x 224 = x / 32 * 32) (by decide +kernel) x h0 h1
theorem and3 (x : Int) (h0 : 0 ≤ x) (h1 : x ≤ 255) : bits .and .u8 x 3 = x % 4 := fin256 (p := fun x => bits .and .u8 x 3 = x % 4) (by decide +kernel) x h0 h1

/-- An instruction. -/
abbrev ins (o d s f i : Int) : Value := .agg #[.int .u8 o, .int .u8 d, .int .u8 s, .int .i16 f, .int .i32 i]
def xB (o : Int) : Bool := decide (o / 8 % 2 = 1)
def askB (c : Int) : Bool := decide (1 ≤ c) && (decide (c ≤ 13) && (!decide (c = 8) && !decide (c = 9)))
theorem x_ne (x : Int) : (x / 8 % 2 * 8 != 0) = xB x := by
  rw [xB, Bool.eq_iff_iff]; simp only [bne_iff_ne, ne_eq, decide_eq_true_eq]; omega

theorem classOf_any (x : Int) (h0 : 0 ≤ x) (h1 : x ≤ 255) (w : World) : Calls Try.prog 70 #[.int .u8 x] w fun e w' => e = .returned (.int .u8 (x % 8)) ∧ w' = w := by
  have e := and7 x h0 h1
  go_enter Try.func70, Try.ntmps70
  go_wp2
  go_ret
  exact ⟨rfl, rfl⟩
theorem hasX_any (x : Int) (h0 : 0 ≤ x) (h1 : x ≤ 255) (w : World) : Calls Try.prog 91 #[.int .u8 x] w fun e w' => e = .returned (.bool (xB x)) ∧ w' = w := by
  have e := and8 x h0 h1
  rw [← x_ne]
  go_enter Try.func91, Try.ntmps91
  go_wp2
  go_ret
  exact ⟨rfl, rfl⟩
theorem ret_bool {a b : Bool} (h : a = b) : Ending.returned (.bool a) = .returned (.bool b) := by rw [h]
theorem ret_u8 {a b : Int} (h : a = b) : Ending.returned (.int .u8 a) = .returned (.int .u8 b) := by rw [h]
theorem ret_i64 {a b : Int} (h : a = b) : Ending.returned (.int .i64 a) = .returned (.int .i64 b) := by rw [h]
theorem gr1 (w : World) (c : Array Value) (t : TypeId) : Gr w (w.alloc (.cells c t)) := ⟨by go_grown, by go_grown⟩

theorem code_any (o d s f i : Int) (h0 : 0 ≤ o) (h1 : o ≤ 255) (w : World) : Calls Try.prog 74 #[ins o d s f i] w fun e w' => e = .returned (.int .u8 (o / 16)) ∧ w' = w.alloc (.cells #[.int .u8 o, .int .u8 d, .int .u8 s, .int .i16 f, .int .i32 i] 30) := by
  go_enter Try.func74, Try.ntmps74
  go_wp2
  go_returns
  exact ⟨rfl, rfl⟩
theorem reckons_any (x : Int) (w : World) : Calls Try.prog 90 #[.int .u8 x] w fun e w' => e = .returned (.bool (decide (x ≤ 12))) ∧ w' = w := by
  go_enter Try.func90, Try.ntmps90
  go_wp2
  go_ret
  exact ⟨rfl, rfl⟩
theorem asks_any (x : Int) (h0 : 0 ≤ x) (h1 : x ≤ 255) (w : World) : Calls Try.prog 73 #[.int .u8 x] w fun e w' => e = .returned (.bool (askB x)) ∧ w' = w := by
  go_enter Try.func73, Try.ntmps73
  go_wp2
  all_goals go_ret
  all_goals refine ⟨ret_bool ?_, rfl⟩
  all_goals ((try simp only [beq_iff_eq, beq_eq_false_iff_ne, bne_iff_ne, bne_eq_false_iff_eq, ne_eq, decide_eq_true_eq, decide_eq_false_iff_not] at *); rw [Bool.eq_iff_iff]; (try simp [askB]) <;> (try omega))
theorem inMem_any (k : Int) (x : Int) (h0 : 0 ≤ x) (h1 : x ≤ 255) (w : World) : Calls Try.prog 71 #[.int .u8 x, .int .u8 k] w fun e w' => e = .returned (.int .u8 (if x / 32 = 3 then k else 0)) ∧ w' = w := by
  have e := and224 x h0 h1
  go_enter Try.func71, Try.ntmps71
  go_wp2
  all_goals go_ret
  all_goals refine ⟨ret_u8 ?_, rfl⟩
  all_goals ((try simp only [beq_iff_eq, beq_eq_false_iff_ne, bne_iff_ne, bne_eq_false_iff_eq, ne_eq, decide_eq_true_eq, decide_eq_false_iff_not] at *) <;> omega)
def szV (x : Int) : Int := if x / 8 % 4 = 0 then 4 else if x / 8 % 4 = 1 then 2 else if x / 8 % 4 = 2 then 1 else 8
def callV (s : Int) : Int := if s = 0 then 6 else if s = 1 then 7 else 0
theorem called_any (x : Int) (h0 : 0 ≤ x) (h1 : x ≤ 255) (w : World) : Calls Try.prog 92 #[.int .u8 x] w fun e w' => e = .returned (.int .u8 (callV x)) ∧ w' = w := by
  go_enter Try.func92, Try.ntmps92
  go_wp2
  all_goals go_ret
  all_goals refine ⟨ret_u8 ?_, rfl⟩
  all_goals ((try simp only [beq_iff_eq, beq_eq_false_iff_ne, bne_iff_ne, bne_eq_false_iff_eq, ne_eq, decide_eq_true_eq, decide_eq_false_iff_not] at *) <;> (first | omega | (simp [callV, *]; done) | (rw [callV]; omega)))
def mayB (k d : Int) : Bool := !(decide (d = 10) && (decide (k = 1) || (decide (k = 2) || decide (k = 9))))
theorem mayWrite_any (k : Int) (x : Int) (h0 : 0 ≤ x) (h1 : x ≤ 255) (w : World) : Calls Try.prog 57 #[.int .u8 k, .int .u8 x] w fun e w' => e = .returned (.bool (mayB k x)) ∧ w' = w := by
  go_enter Try.func57, Try.ntmps57
  go_wp2
  all_goals go_ret
  all_goals refine ⟨ret_bool ?_, rfl⟩
  all_goals ((try simp only [beq_iff_eq, beq_eq_false_iff_ne, bne_iff_ne, bne_eq_false_iff_eq, ne_eq, decide_eq_true_eq, decide_eq_false_iff_not] at *); rw [Bool.eq_iff_iff]; (try simp [mayB]) <;> (try omega))
theorem box5 {w w' : World} {a b c d e : Value} {t : TypeId} (h : Gr (w.alloc (.cells #[a, b, c, d, e] t)) w') : w'.cell? ⟨w.heap.size, 0, none⟩ = some a ∧ w'.cell? ⟨w.heap.size, 1, none⟩ = some b ∧ w'.cell? ⟨w.heap.size, 2, none⟩ = some c ∧ w'.cell? ⟨w.heap.size, 3, none⟩ = some d ∧ w'.cell? ⟨w.heap.size, 4, none⟩ = some e := by
  refine ⟨?_, ?_, ?_, ?_, ?_⟩ <;> exact (h.below.cell (p := ⟨w.heap.size, _, none⟩) (by simp)).trans (by simp)
def reckV (o : Int) : Int := if o / 16 ≤ 12 ∧ ¬ (o / 16 = 8 ∧ xB o = true) then 1 else 0
theorem reckoned_any (o d s f i : Int) (h0 : 0 ≤ o) (h1 : o ≤ 255) (w : World) : Calls Try.prog 72 #[ins o d s f i] w fun e w' => e = .returned (.int .u8 (reckV o)) ∧ Gr w w' := by
  go_enter Try.func72, Try.ntmps72
  go_wp2_with (first | (go_at_call 74; refine (code_any _ _ _ _ _ h0 h1 _).mono ?_; rintro e w' ⟨rfl, rfl⟩) | (go_at_call 91; refine (hasX_any _ h0 h1 _).mono ?_; rintro e w' ⟨rfl, hw⟩; rw [hw]; clear hw w') | (go_at_call 90; refine (reckons_any _ _).mono ?_; rintro e w' ⟨rfl, hw⟩; rw [hw]; clear hw w'))
  all_goals go_returns
  all_goals refine ⟨ret_u8 ?_, by go_grown, by go_grown⟩
  all_goals ((try simp only [beq_iff_eq, beq_eq_false_iff_ne, bne_iff_ne, bne_eq_false_iff_eq, ne_eq, decide_eq_true_eq, decide_eq_false_iff_not] at *); simp only [reckV, *]; (try simp); (try omega))
def noAskV (o s : Int) : Int := if xB o = true then 0 else if o / 16 = 0 then 10 else if o / 16 = 9 then 8 else if o / 16 = 8 then callV s else 0
theorem noAsk_any (o d s f i : Int) (h0 : 0 ≤ o) (h1 : o ≤ 255) (s0 : 0 ≤ s) (s1 : s ≤ 255) (w : World) : Calls Try.prog 75 #[ins o d s f i] w fun e w' => e = .returned (.int .u8 (noAskV o s)) ∧ Gr w w' := by
  go_enter Try.func75, Try.ntmps75
  go_wp2_with (first | (go_at_call 74; refine (code_any _ _ _ _ _ h0 h1 _).mono ?_; rintro e w' ⟨rfl, rfl⟩) | (go_at_call 91; refine (hasX_any _ h0 h1 _).mono ?_; rintro e w' ⟨rfl, hw⟩; rw [hw]; clear hw w') | (go_at_call 92; refine (called_any _ s0 s1 _).mono ?_; rintro e w' ⟨rfl, hw⟩; rw [hw]; clear hw w'))
  all_goals go_returns
  all_goals refine ⟨ret_u8 ?_, by go_grown, by go_grown⟩
  all_goals ((try simp only [beq_iff_eq, beq_eq_false_iff_ne, bne_iff_ne, bne_eq_false_iff_eq, ne_eq, decide_eq_true_eq, decide_eq_false_iff_not] at *); simp only [noAskV, *]; (try simp); (try omega))
def nmV (o s : Int) : Int := if o % 8 = 0 then (if o = 24 ∧ s ≤ 2 then 9 else 0) else if o % 8 = 1 then (if o / 32 = 3 then 2 else 0) else if o % 8 = 2 then (if o / 32 = 3 then 3 else 0) else if o % 8 = 3 then (if o / 32 = 3 then 4 else 0)
  else if o % 8 = 4 ∨ o % 8 = 7 then reckV o else if o % 8 = 5 then (if askB (o / 16) = true then 5 else noAskV o s) else if o % 8 = 6 then (if askB (o / 16) = true then 5 else 0) else 0
theorem named_any (o d s f i : Int) (h0 : 0 ≤ o) (h1 : o ≤ 255) (s0 : 0 ≤ s) (s1 : s ≤ 255) (w : World) : Calls Try.prog 56 #[ins o d s f i] w fun e w' => e = .returned (.int .u8 (nmV o s)) ∧ Gr w w' := by
  go_enter Try.func56, Try.ntmps56
  go_wp2_with (first | (go_at_call 74; refine (code_any _ _ _ _ _ h0 h1 _).mono ?_; rintro e w' ⟨rfl, rfl⟩) | (go_at_call 91; refine (hasX_any _ h0 h1 _).mono ?_; rintro e w' ⟨rfl, hw⟩; rw [hw]; clear hw w') | (go_at_call 70; refine (classOf_any _ h0 h1 _).mono ?_; rintro e w' ⟨rfl, hw⟩; rw [hw]; clear hw w') | (go_at_call 71; refine (inMem_any _ _ h0 h1 _).mono ?_; rintro e w' ⟨rfl, hw⟩; rw [hw]; clear hw w') | (go_at_call 72; refine (reckoned_any _ _ _ _ _ h0 h1 _).mono ?_; rintro e w' ⟨rfl, hg⟩) | (go_at_call 75; refine (noAsk_any _ _ _ _ _ h0 h1 s0 s1 _).mono ?_; rintro e w' ⟨rfl, hg⟩) | (go_at_call 73; refine (asks_any _ (by omega) (by omega) _).mono ?_; rintro e w' ⟨rfl, hw⟩; rw [hw]; clear hw w'))
  all_goals go_returns
  all_goals (refine ⟨ret_u8 ?_, ?_⟩; (focus ((try simp only [beq_iff_eq, beq_eq_false_iff_ne, bne_iff_ne, bne_eq_false_iff_eq, ne_eq, decide_eq_true_eq, decide_eq_false_iff_not] at *); (cases hA : askB (o / 16) <;> simp [nmV, *] <;> simp_all <;> omega))); (first | ((refine ⟨?_, ?_⟩ <;> go_grown); done) | (refine Gr.trans ?_ hg; refine ⟨?_, ?_⟩ <;> go_grown)))
end Go.Proofs.Ytdmdmbcapjmnlab
