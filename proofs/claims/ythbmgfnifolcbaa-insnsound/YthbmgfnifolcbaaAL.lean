/- Towards the statements of package insn (layer 7): some answers that the document fixes: contract of alive. -/
import Derived.Test.YthbmgfnifolcbaaEN
namespace Go.Proofs.Ythbmgfnifolcbaa
open Go.ChangeShapes Go.WideShapes Go.ChangeAt Go.RowKit
open Go.PlainAid (bt get_bt bt_nonneg bt_le bt_end)
set_option linter.unusedVariables false
set_option linter.unusedSimpArgs false
set_option maxRecDepth 20000

theorem gr_below {f : FuncId} {args : Array Value} {w : World} {v : Value} (h : Calls Try.prog f args w fun e w' => e = .returned v ∧ Gr w w') : Calls Try.prog f args w fun e w' => e = .returned v ∧ Below w.heap.size w w' :=
  h.mono fun _ _ ⟨he, hg⟩ => ⟨he, hg.below⟩
theorem at_eq {f : FuncId} {args : Array Value} {w : World} {v u : Value} (e : v = u) (h : Calls Try.prog f args w fun e w' => e = .returned v ∧ Gr w w') : Calls Try.prog f args w fun e w' => e = .returned u ∧ Below w.heap.size w w' :=
  e ▸ gr_below h
theorem dec_a (w : World) : Calls Try.prog 9 #[.string ⟨#[183, 1, 0, 0, 5, 0, 0, 0]⟩] w fun e w' => e = .returned (.tuple #[ins 183 1 0 0 5, .int .i64 0]) ∧ Below w.heap.size w w' :=
  at_eq (by kernel_rfl) (decode_8 ⟨#[183, 1, 0, 0, 5, 0, 0, 0]⟩ rfl w)
theorem dec_b (w : World) : Calls Try.prog 9 #[.string ⟨#[121, 33, 8, 0, 0, 0, 0, 0]⟩] w fun e w' => e = .returned (.tuple #[ins 121 1 2 8 0, .int .i64 0]) ∧ Below w.heap.size w w' :=
  at_eq (by kernel_rfl) (decode_8 ⟨#[121, 33, 8, 0, 0, 0, 0, 0]⟩ rfl w)
theorem dec_c (w : World) : Calls Try.prog 9 #[.string ⟨#[49, 50, 51, 52, 53, 54, 55]⟩] w fun e w' => e = .returned (.tuple #[ins 0 0 0 0 0, .int .i64 10]) ∧ Below w.heap.size w w' :=
  gr_below (decode_short ⟨#[49, 50, 51, 52, 53, 54, 55]⟩ (by decide) w)
theorem dec_d (w : World) : Calls Try.prog 9 #[.string ⟨#[49, 50, 51, 52, 53, 54, 55, 56, 57]⟩] w fun e w' => e = .returned (.tuple #[ins 0 0 0 0 0, .int .i64 4]) ∧ Below w.heap.size w w' :=
  gr_below (decode_long ⟨#[49, 50, 51, 52, 53, 54, 55, 56, 57]⟩ (by decide) w)
theorem enc_a (w : World) : Calls Try.prog 11 #[ins 183 1 0 0 5] w fun e w' => e = .returned (.string ⟨#[183, 1, 0, 0, 5, 0, 0, 0]⟩) ∧ Below w.heap.size w w' :=
  at_eq (by kernel_rfl) (encode_any 183 1 0 0 5 (by decide) (by decide) (by decide) (by decide) (by decide) (by decide) w)

theorem kind_a_ (w : World) : Calls Try.prog 13 #[ins 183 1 0 0 5] w fun e w' => e = .returned (.int .u8 1) ∧ Below w.heap.size w w' :=
  at_eq (by kernel_rfl) (kind_any 183 1 0 0 5 (by decide) (by decide) (by decide) (by decide) (by decide) (by decide) w)
theorem kind_b_ (w : World) : Calls Try.prog 13 #[ins 121 1 2 8 0] w fun e w' => e = .returned (.int .u8 2) ∧ Below w.heap.size w w' :=
  at_eq (by kernel_rfl) (kind_any 121 1 2 8 0 (by decide) (by decide) (by decide) (by decide) (by decide) (by decide) w)
theorem kind_bad_ (w : World) : Calls Try.prog 13 #[ins 183 10 0 0 5] w fun e w' => e = .returned (.int .u8 0) ∧ Below w.heap.size w w' :=
  at_eq (by kernel_rfl) (kind_any 183 10 0 0 5 (by decide) (by decide) (by decide) (by decide) (by decide) (by decide) w)
theorem kind_x_ (w : World) : Calls Try.prog 13 #[ins 149 0 0 0 0] w fun e w' => e = .returned (.int .u8 8) ∧ Below w.heap.size w w' :=
  at_eq (by kernel_rfl) (kind_any 149 0 0 0 0 (by decide) (by decide) (by decide) (by decide) (by decide) (by decide) w)
theorem wide_a (w : World) : Calls Try.prog 19 #[ins 183 1 0 0 5] w fun e w' => e = .returned (.bool true) ∧ Below w.heap.size w w' :=
  at_eq (by kernel_rfl) (wide_any 183 1 0 0 5 (by decide) (by decide) (by decide) (by decide) (by decide) (by decide) w)
theorem size_b (w : World) : Calls Try.prog 17 #[ins 121 1 2 8 0] w fun e w' => e = .returned (.int .i64 8) ∧ Below w.heap.size w w' :=
  at_eq (by kernel_rfl) (isize_any 121 1 2 8 0 (by decide) (by decide) (by decide) (by decide) (by decide) (by decide) w)
theorem writes_a (w : World) : Calls Try.prog 21 #[ins 183 1 0 0 5] w fun e w' => e = .returned (.tuple #[.int .u8 1, .bool true]) ∧ Below w.heap.size w w' :=
  at_eq (by kernel_rfl) (writes_any 183 1 0 0 5 (by decide) (by decide) (by decide) (by decide) (by decide) (by decide) w)
theorem reads_a (w : World) : Calls Try.prog 24 #[ins 183 1 0 0 5] w fun e w' => ∃ a c, e = .returned (.slice a 0 c) ∧ Below w.heap.size w w' := by
  refine (reads_any 183 1 0 0 5 (by decide) (by decide) (by decide) (by decide) (by decide) (by decide) w).mono ?_
  rintro e w' ⟨v, rfl, hv, hb⟩
  rw [show rdL (kV 183 1 0 0 5) 183 1 0 = [] by kernel_rfl] at hv
  obtain ⟨a, c, rfl⟩ := bytes_zero hv
  exact ⟨a, c, rfl, hb⟩
set_option maxHeartbeats 4000000 in
theorem alive_any (w : World) : Calls Try.prog 8 #[] w fun e w' => e = .returned (.bool true) ∧ Below w.heap.size w w' := by
  go_enter Try.func8, Try.ntmps8
  go_upto_region 2 with (first | (go_at_call 9; refine (dec_a _).mono ?_; rintro e w1 ⟨rfl, hb⟩))
  have HG : Below w.heap.size w (w1.alloc (Obj.cells #[.int .u8 183, .int .u8 1, .int .u8 0, .int .i16 0, .int .i32 5] 24)) := hb.alloc hb.size _
  have HA := At5.new w1 183 1 0 0 5
  clear hb
  generalize w1.alloc (Obj.cells #[.int .u8 183, .int .u8 1, .int .u8 0, .int .i16 0, .int .i32 5] 24) = W1 at HG HA ⊢
  generalize w1.heap.size = A1 at HA ⊢
  go_upto_region 3 with (first | (go_at_call 9; refine (dec_b _).mono ?_; rintro e w2 ⟨rfl, hb⟩))
  replace HG : Below w.heap.size w (w2.alloc (Obj.cells #[.int .u8 121, .int .u8 1, .int .u8 2, .int .i16 8, .int .i32 0] 24)) := (HG.trans (hb.mono HG.size)).alloc (Nat.le_trans HG.size hb.size) _
  replace HA := (HA.below hb).below ((Below.refl _ w2).alloc (Nat.le_refl _) (Obj.cells #[.int .u8 121, .int .u8 1, .int .u8 2, .int .i16 8, .int .i32 0] 24))
  have HB := At5.new w2 121 1 2 8 0
  clear hb
  generalize w2.alloc (Obj.cells #[.int .u8 121, .int .u8 1, .int .u8 2, .int .i16 8, .int .i32 0] 24) = W2 at HG HA HB ⊢
  generalize w2.heap.size = A2 at HB ⊢
  go_upto_region 4 with (first | (go_at_call 9; refine (dec_c _).mono ?_; rintro e w3 ⟨rfl, hb⟩))
  replace HG : Below w.heap.size w (w3.alloc (Obj.cells #[.int .u8 0, .int .u8 0, .int .u8 0, .int .i16 0, .int .i32 0] 24)) := (HG.trans (hb.mono HG.size)).alloc (Nat.le_trans HG.size hb.size) _
  replace HA := (HA.below hb).below ((Below.refl _ w3).alloc (Nat.le_refl _) (Obj.cells #[.int .u8 0, .int .u8 0, .int .u8 0, .int .i16 0, .int .i32 0] 24))
  replace HB := (HB.below hb).below ((Below.refl _ w3).alloc (Nat.le_refl _) (Obj.cells #[.int .u8 0, .int .u8 0, .int .u8 0, .int .i16 0, .int .i32 0] 24))
  clear hb
  generalize w3.alloc (Obj.cells #[.int .u8 0, .int .u8 0, .int .u8 0, .int .i16 0, .int .i32 0] 24) = W3 at HG HA HB ⊢
  generalize w3.heap.size = A3 at ⊢
  go_upto_region 5 with (first | (go_at_call 9; refine (dec_d _).mono ?_; rintro e w4 ⟨rfl, hb⟩))
  replace HG : Below w.heap.size w (w4.alloc (Obj.cells #[.int .u8 0, .int .u8 0, .int .u8 0, .int .i16 0, .int .i32 0] 24)) := (HG.trans (hb.mono HG.size)).alloc (Nat.le_trans HG.size hb.size) _
  replace HA := (HA.below hb).below ((Below.refl _ w4).alloc (Nat.le_refl _) (Obj.cells #[.int .u8 0, .int .u8 0, .int .u8 0, .int .i16 0, .int .i32 0] 24))
  replace HB := (HB.below hb).below ((Below.refl _ w4).alloc (Nat.le_refl _) (Obj.cells #[.int .u8 0, .int .u8 0, .int .u8 0, .int .i16 0, .int .i32 0] 24))
  clear hb
  generalize w4.alloc (Obj.cells #[.int .u8 0, .int .u8 0, .int .u8 0, .int .i16 0, .int .i32 0] 24) = W4 at HG HA HB ⊢
  generalize w4.heap.size = A4 at ⊢
  obtain ⟨a0, a1, a2, a3, a4⟩ := HA.cells
  go_upto_region 6 with (first | (go_at_call 21; refine (writes_a _).mono ?_; rintro e w5 ⟨rfl, hb⟩))
  replace HG : Below w.heap.size w w5 := HG.trans (hb.mono HG.size)
  replace HA := HA.below hb
  replace HB := HB.below hb
  clear hb a0 a1 a2 a3 a4
  obtain ⟨a0, a1, a2, a3, a4⟩ := HA.cells
  go_upto_region 8 with fail
  replace HG : Below w.heap.size w (w5.alloc (Obj.cells #[.int .u8 183, .int .u8 10, .int .u8 0, .int .i16 0, .int .i32 5] 24)) := HG.alloc HG.size _
  replace HA := HA.below ((Below.refl _ w5).alloc (Nat.le_refl _) (Obj.cells #[.int .u8 183, .int .u8 10, .int .u8 0, .int .i16 0, .int .i32 5] 24))
  replace HB := HB.below ((Below.refl _ w5).alloc (Nat.le_refl _) (Obj.cells #[.int .u8 183, .int .u8 10, .int .u8 0, .int .i16 0, .int .i32 5] 24))
  have HC := At5.new w5 183 10 0 0 5
  clear a0 a1 a2 a3 a4
  generalize w5.alloc (Obj.cells #[.int .u8 183, .int .u8 10, .int .u8 0, .int .i16 0, .int .i32 5] 24) = W6 at HG HA HB HC ⊢
  generalize w5.heap.size = A6 at HC ⊢
  obtain ⟨a0, a1, a2, a3, a4⟩ := HA.cells
  obtain ⟨b0, b1, b2, b3, b4⟩ := HB.cells
  obtain ⟨x0, x1, x2, x3, x4⟩ := HC.cells
  go_wp2_with (first | (go_at_call_of 13 (Value.int IntKind.u8 10); refine (kind_bad_ _).mono ?_; rintro e w7 ⟨rfl, hb⟩; replace HG := HG.trans (hb.mono HG.size); replace HA := HA.below hb; replace HB := HB.below hb; replace HC := HC.below hb; clear hb; obtain ⟨a0, a1, a2, a3, a4⟩ := HA.cells; obtain ⟨b0, b1, b2, b3, b4⟩ := HB.cells; obtain ⟨x0, x1, x2, x3, x4⟩ := HC.cells) | (go_at_call_of 13 (Value.int IntKind.u8 121); refine (kind_b_ _).mono ?_; rintro e w7 ⟨rfl, hb⟩; replace HG := HG.trans (hb.mono HG.size); replace HA := HA.below hb; replace HB := HB.below hb; replace HC := HC.below hb; clear hb; obtain ⟨a0, a1, a2, a3, a4⟩ := HA.cells; obtain ⟨b0, b1, b2, b3, b4⟩ := HB.cells; obtain ⟨x0, x1, x2, x3, x4⟩ := HC.cells) | (go_at_call_of 13 (Value.int IntKind.u8 149); refine (kind_x_ _).mono ?_; rintro e w7 ⟨rfl, hb⟩; replace HG := HG.trans (hb.mono HG.size); replace HA := HA.below hb; replace HB := HB.below hb; replace HC := HC.below hb; clear hb; obtain ⟨a0, a1, a2, a3, a4⟩ := HA.cells; obtain ⟨b0, b1, b2, b3, b4⟩ := HB.cells; obtain ⟨x0, x1, x2, x3, x4⟩ := HC.cells) | (go_at_call_of 13 (Value.int IntKind.u8 183); refine (kind_a_ _).mono ?_; rintro e w7 ⟨rfl, hb⟩; replace HG := HG.trans (hb.mono HG.size); replace HA := HA.below hb; replace HB := HB.below hb; replace HC := HC.below hb; clear hb; obtain ⟨a0, a1, a2, a3, a4⟩ := HA.cells; obtain ⟨b0, b1, b2, b3, b4⟩ := HB.cells; obtain ⟨x0, x1, x2, x3, x4⟩ := HC.cells) | (go_at_call 19; refine (wide_a _).mono ?_; rintro e w7 ⟨rfl, hb⟩; replace HG := HG.trans (hb.mono HG.size); replace HA := HA.below hb; replace HB := HB.below hb; replace HC := HC.below hb; clear hb; obtain ⟨a0, a1, a2, a3, a4⟩ := HA.cells; obtain ⟨b0, b1, b2, b3, b4⟩ := HB.cells; obtain ⟨x0, x1, x2, x3, x4⟩ := HC.cells) | (go_at_call 17; refine (size_b _).mono ?_; rintro e w7 ⟨rfl, hb⟩; replace HG := HG.trans (hb.mono HG.size); replace HA := HA.below hb; replace HB := HB.below hb; replace HC := HC.below hb; clear hb; obtain ⟨a0, a1, a2, a3, a4⟩ := HA.cells; obtain ⟨b0, b1, b2, b3, b4⟩ := HB.cells; obtain ⟨x0, x1, x2, x3, x4⟩ := HC.cells) | (go_at_call 24; refine (reads_a _).mono ?_; rintro e w7 ⟨a, c, rfl, hb⟩; replace HG := HG.trans (hb.mono HG.size); replace HA := HA.below hb; replace HB := HB.below hb; replace HC := HC.below hb; clear hb; obtain ⟨a0, a1, a2, a3, a4⟩ := HA.cells; obtain ⟨b0, b1, b2, b3, b4⟩ := HB.cells; obtain ⟨x0, x1, x2, x3, x4⟩ := HC.cells) | (go_at_call 11; refine (enc_a _).mono ?_; rintro e w7 ⟨rfl, hb⟩; replace HG := HG.trans (hb.mono HG.size); replace HA := HA.below hb; replace HB := HB.below hb; replace HC := HC.below hb; clear hb; obtain ⟨a0, a1, a2, a3, a4⟩ := HA.cells; obtain ⟨b0, b1, b2, b3, b4⟩ := HB.cells; obtain ⟨x0, x1, x2, x3, x4⟩ := HC.cells))
  trace_state
  go_returns
  exact ⟨rfl, HG⟩
end Go.Proofs.Ythbmgfnifolcbaa
