/- Towards the statements of package cond (layer 6): its small parts. -/
import Derived.Test.YtcbcijibgpaipaaGreatMI
import Derived.Test.YtcbcijibgpaipaaGreatBC
import Derived.Test.YtcbcijibgpaipaaGreatMeet
import Derived.Deep.DeepCutAuto
namespace Go.Proofs.YtcbcijibgpaipaaGreat
open Go.ChangeShapes Go.WideShapes Go.ChangeAt Go.RowKit
open Tn (iv)
set_option linter.unusedVariables false
set_option linter.unusedSimpArgs false
set_option maxRecDepth 20000

theorem k_spanOf_f (p : Nat) (w : World) : Calls Tryz.prog 265 #[.pointer (some ⟨p, 0, none⟩), .bool false] w fun e w' => e = .returned (.pointer (some ⟨p, 6, none⟩)) ∧ Gr w w' := by
  go_enter Tryz.func265, Tryz.ntmps265
  go_wp2
  go_ret
  exact ⟨rfl, Gr.refl w⟩
theorem k_spanOf_t (p : Nat) (w : World) : Calls Tryz.prog 265 #[.pointer (some ⟨p, 0, none⟩), .bool true] w fun e w' => e = .returned (.pointer (some ⟨p, 2, none⟩)) ∧ Gr w w' := by
  go_enter Tryz.func265, Tryz.ntmps265
  go_wp2
  go_ret
  exact ⟨rfl, Gr.refl w⟩
theorem k_reachOf_f (p : Nat) (w : World) : Calls Tryz.prog 280 #[.pointer (some ⟨p, 0, none⟩), .bool false] w fun e w' => e = .returned (.pointer (some ⟨p, 8, none⟩)) ∧ Gr w w' := by
  go_enter Tryz.func280, Tryz.ntmps280
  go_wp2
  go_ret
  exact ⟨rfl, Gr.refl w⟩
theorem k_reachOf_t (p : Nat) (w : World) : Calls Tryz.prog 280 #[.pointer (some ⟨p, 0, none⟩), .bool true] w fun e w' => e = .returned (.pointer (some ⟨p, 4, none⟩)) ∧ Gr w w' := by
  go_enter Tryz.func280, Tryz.ntmps280
  go_wp2
  go_ret
  exact ⟨rfl, Gr.refl w⟩
theorem k_signOf_t (n : Int) (w : World) : Calls Tryz.prog 286 #[.int .u64 n, .bool true] w fun e w' => e = .returned (.int .i64 (wrap64 n)) ∧ Gr w w' := by
  go_enter Tryz.func286, Tryz.ntmps286
  go_wp2
  go_ret
  exact ⟨rfl, Gr.refl w⟩
theorem w32_sg (n : Int) : wrap64 (wrap32 n) = sg n := by
  unfold wrap64 wrap32 sg
  omega
theorem k_signOf_f (n : Int) (w : World) : Calls Tryz.prog 286 #[.int .u64 n, .bool false] w fun e w' => e = .returned (.int .i64 (sg n)) ∧ Gr w w' := by
  have r := w32_sg n
  go_enter Tryz.func286, Tryz.ntmps286
  go_wp2
  go_ret
  refine ⟨?_, Gr.refl w⟩
  simp [r]
theorem gr_drewN {w w' : World} (h : Gr w w') (n : Nat) : Gr w (w'.drewN n) := by
  induction n with
  | zero => exact h
  | succ n ih => exact ih.drew
theorem xor_max (x : BitVec 64) : bits .xor .u64 IntKind.u64.max (iv x) = iv (~~~x) := by
  have e : IntKind.u64.max = iv 18446744073709551615#64 := by decide
  rw [e, Tn.iv_xor]
  refine congrArg iv ?_
  ext i hi
  have : (18446744073709551615#64)[i] = true := by
    have : ∀ k : Fin 64, (18446744073709551615#64).getLsbD k.val = true := by decide
    exact this ⟨i, hi⟩
  simp [this]
theorem k_zeros (x : BitVec 64) (w : World) : Calls Tryz.prog 241 #[.int .u64 (iv x)] w fun e w' => e = .returned (.agg #[.int .u64 (iv 0#64), .int .u64 (iv (~~~x))]) ∧ Gr w w' := by
  have r := xor_max x
  go_enter Tryz.func241, Tryz.ntmps241
  go_wp2
  go_returns
  exact ⟨rfl, Gr.alloc (Gr.refl w) _ _⟩
theorem k_ones (x : BitVec 64) (w : World) : Calls Tryz.prog 269 #[.int .u64 (iv x)] w fun e w' => e = .returned (.agg #[.int .u64 (iv x), .int .u64 (iv (~~~x))]) ∧ Gr w w' := by
  have r := xor_max x
  go_enter Tryz.func269, Tryz.ntmps269
  go_wp2
  go_returns
  exact ⟨rfl, Gr.alloc (Gr.refl w) _ _⟩
theorem k_bitsOf_t (v m : BitVec 64) (w : World) : Calls Tryz.prog 239 #[.agg #[.int .u64 (iv v), .int .u64 (iv m)], .bool true] w fun e w' => e = .returned (.agg #[.int .u64 (iv v), .int .u64 (iv m)]) ∧ Gr w w' := by
  go_enter Tryz.func239, Tryz.ntmps239
  go_wp2
  go_returns
  exact ⟨rfl, Gr.alloc (Gr.alloc (Gr.refl w) _ _) _ _⟩
theorem wo_u64_tt (l h n : Int) (h1 : (l == n) = true) (h2 : (h == n) = true) (w : World) : Calls Tryz.prog 283 #[.agg #[.int .u64 l, .int .u64 h], .int .u64 n] w fun e w' => e = .returned (.agg #[.int .u64 1, .int .u64 0]) ∧ Gr w w' := by
  go_enter Tryz.func283, Tryz.ntmps283
  go_wp2
  go_returns
  refine ⟨?_, ?_⟩
  · rfl
  · exact Gr.alloc (Gr.alloc (Gr.refl w) _ _) _ _
theorem wo_u64_tf (l h n : Int) (h1 : (l == n) = true) (h2 : (h == n) = false) (r : IntKind.u64.wrap (l + 1) = l + 1) (w : World) : Calls Tryz.prog 283 #[.agg #[.int .u64 l, .int .u64 h], .int .u64 n] w fun e w' => e = .returned (.agg #[.int .u64 (l + 1), .int .u64 h]) ∧ Gr w w' := by
  have r2 : IntKind.u64.wrap (n + 1) = n + 1 := by rw [beq_iff_eq] at h1; rw [← h1]; exact r
  go_enter Tryz.func283, Tryz.ntmps283
  go_wp2
  go_returns
  refine ⟨?_, ?_⟩
  · rfl
  · exact Gr.alloc (Gr.alloc (Gr.refl w) _ _) _ _
theorem wo_u64_ft (l h n : Int) (h1 : (l == n) = false) (h2 : (h == n) = true) (r : IntKind.u64.wrap (h - 1) = h - 1) (w : World) : Calls Tryz.prog 283 #[.agg #[.int .u64 l, .int .u64 h], .int .u64 n] w fun e w' => e = .returned (.agg #[.int .u64 l, .int .u64 (h - 1)]) ∧ Gr w w' := by
  have r2 : IntKind.u64.wrap (n - 1) = n - 1 := by rw [beq_iff_eq] at h2; rw [← h2]; exact r
  go_enter Tryz.func283, Tryz.ntmps283
  go_wp2
  go_returns
  refine ⟨?_, ?_⟩
  · rfl
  · exact Gr.alloc (Gr.alloc (Gr.refl w) _ _) _ _
theorem wo_u64_ff (l h n : Int) (h1 : (l == n) = false) (h2 : (h == n) = false) (w : World) : Calls Tryz.prog 283 #[.agg #[.int .u64 l, .int .u64 h], .int .u64 n] w fun e w' => e = .returned (.agg #[.int .u64 l, .int .u64 h]) ∧ Gr w w' := by
  go_enter Tryz.func283, Tryz.ntmps283
  go_wp2
  go_returns
  refine ⟨?_, ?_⟩
  · rfl
  · exact Gr.alloc (Gr.alloc (Gr.refl w) _ _) _ _
theorem k_without_u64 (l h n : Int) (h0 : 0 ≤ l) (h1 : l ≤ h) (h2 : h ≤ 18446744073709551615) (w : World) : Calls Tryz.prog 283 #[.agg #[.int .u64 l, .int .u64 h], .int .u64 n] w fun e w' => e = .returned (.agg #[.int .u64 (woL l h n), .int .u64 (woH l h n)]) ∧ Gr w w' := by
  unfold woL woH
  by_cases e1 : l = n <;> by_cases e2 : h = n
  · rw [if_pos ⟨e1, e2⟩, if_pos ⟨e1, e2⟩]
    exact wo_u64_tt l h n (by simpa using e1) (by simpa using e2) w
  · have c : ¬ (l = n ∧ h = n) := fun k => e2 k.2
    simp only [if_neg c, if_pos e1]
    exact wo_u64_tf l h n (by simpa using e1) (by simpa using e2) (wrap_inU (by unfold InU; omega)) w
  · have c : ¬ (l = n ∧ h = n) := fun k => e1 k.1
    simp only [if_neg c, if_neg e1, if_pos e2]
    exact wo_u64_ft l h n (by simpa using e1) (by simpa using e2) (wrap_inU (by unfold InU; omega)) w
  · have c : ¬ (l = n ∧ h = n) := fun k => e1 k.1
    simp only [if_neg c, if_neg e1, if_neg e2]
    exact wo_u64_ff l h n (by simpa using e1) (by simpa using e2) w
theorem k_apart_u64_0 (al ah bl bh cl ch : Int) (r1 : IntKind.u64.wrap (bl + 0) = bl + 0) (r2 : IntKind.u64.wrap (ah - 0) = ah - 0) (w : World) : Calls Tryz.prog 278 #[.agg #[.int .u64 al, .int .u64 ah], .agg #[.int .u64 bl, .int .u64 bh], .agg #[.int .u64 cl, .int .u64 ch], .int .u64 0] w fun e w' => e = .returned (.tuple #[.int .u64 (max al (bl + 0)), .int .u64 (min bh (ah - 0)), .bool true]) ∧ Gr w w' := by
  rw [Int.add_zero] at r1 ⊢
  rw [Int.sub_zero] at r2 ⊢
  go_enter Tryz.func278, Tryz.ntmps278
  go_wp2
  go_quiet (fail)
  obtain ⟨M1, hM1⟩ : ∃ M, max al (bl) = M := ⟨_, rfl⟩
  obtain ⟨M2, hM2⟩ : ∃ M, min bh (ah) = M := ⟨_, rfl⟩
  have m1 : (if al < bl then bl else al) = M1 := by omega
  have m2 : (if ah < bh then ah else bh) = M2 := by omega
  simp only [m1, m2]
  go_wp2
  go_returns
  refine ⟨?_, ?_⟩
  · rw [hM1, hM2]; rfl
  · exact gr_drewN (Gr.alloc (Gr.alloc (Gr.alloc (Gr.refl w) _ _) _ _) _ _) _
theorem k_apart_u64_1 (al ah bl bh cl ch : Int) (g1 : bl < ch) (g2 : cl < ah) (r1 : IntKind.u64.wrap (bl + 1) = bl + 1) (r2 : IntKind.u64.wrap (ah - 1) = ah - 1) (w : World) : Calls Tryz.prog 278 #[.agg #[.int .u64 al, .int .u64 ah], .agg #[.int .u64 bl, .int .u64 bh], .agg #[.int .u64 cl, .int .u64 ch], .int .u64 1] w fun e w' => e = .returned (.tuple #[.int .u64 (max al (bl + 1)), .int .u64 (min bh (ah - 1)), .bool true]) ∧ Gr w w' := by
  go_enter Tryz.func278, Tryz.ntmps278
  go_wp2
  go_quiet (fail)
  obtain ⟨M1, hM1⟩ : ∃ M, max al (bl + 1) = M := ⟨_, rfl⟩
  obtain ⟨M2, hM2⟩ : ∃ M, min bh (ah - 1) = M := ⟨_, rfl⟩
  have m1 : (if al < bl + 1 then bl + 1 else al) = M1 := by omega
  have m2 : (if ah - 1 < bh then ah - 1 else bh) = M2 := by omega
  simp only [m1, m2]
  go_wp2
  go_returns
  refine ⟨?_, ?_⟩
  · rw [hM1, hM2]; rfl
  · exact gr_drewN (Gr.alloc (Gr.alloc (Gr.alloc (Gr.refl w) _ _) _ _) _ _) _
theorem k_apart_u64_na (al ah bl bh cl ch : Int) (g1 : ch ≤ bl) (w : World) : Calls Tryz.prog 278 #[.agg #[.int .u64 al, .int .u64 ah], .agg #[.int .u64 bl, .int .u64 bh], .agg #[.int .u64 cl, .int .u64 ch], .int .u64 1] w fun e w' => e = .returned (.tuple #[.int .u64 0, .int .u64 0, .bool false]) ∧ Gr w w' := by
  go_enter Tryz.func278, Tryz.ntmps278
  go_wp2
  go_returns
  exact ⟨rfl, Gr.alloc (Gr.alloc (Gr.alloc (Gr.refl w) _ _) _ _) _ _⟩
theorem k_apart_u64_nb (al ah bl bh cl ch : Int) (g1 : bl < ch) (g2 : ah ≤ cl) (w : World) : Calls Tryz.prog 278 #[.agg #[.int .u64 al, .int .u64 ah], .agg #[.int .u64 bl, .int .u64 bh], .agg #[.int .u64 cl, .int .u64 ch], .int .u64 1] w fun e w' => e = .returned (.tuple #[.int .u64 0, .int .u64 0, .bool false]) ∧ Gr w w' := by
  go_enter Tryz.func278, Tryz.ntmps278
  go_wp2
  go_returns
  exact ⟨rfl, Gr.alloc (Gr.alloc (Gr.alloc (Gr.refl w) _ _) _ _) _ _⟩
theorem wo_i64_tt (l h n : Int) (h1 : (l == n) = true) (h2 : (h == n) = true) (w : World) : Calls Tryz.prog 285 #[.agg #[.int .i64 l, .int .i64 h], .int .i64 n] w fun e w' => e = .returned (.agg #[.int .i64 1, .int .i64 0]) ∧ Gr w w' := by
  go_enter Tryz.func285, Tryz.ntmps285
  go_wp2
  go_returns
  refine ⟨?_, ?_⟩
  · rfl
  · exact Gr.alloc (Gr.alloc (Gr.refl w) _ _) _ _
theorem wo_i64_tf (l h n : Int) (h1 : (l == n) = true) (h2 : (h == n) = false) (r : wrap64 (l + 1) = l + 1) (w : World) : Calls Tryz.prog 285 #[.agg #[.int .i64 l, .int .i64 h], .int .i64 n] w fun e w' => e = .returned (.agg #[.int .i64 (l + 1), .int .i64 h]) ∧ Gr w w' := by
  have r2 : wrap64 (n + 1) = n + 1 := by rw [beq_iff_eq] at h1; rw [← h1]; exact r
  go_enter Tryz.func285, Tryz.ntmps285
  go_wp2
  go_returns
  refine ⟨?_, ?_⟩
  · rfl
  · exact Gr.alloc (Gr.alloc (Gr.refl w) _ _) _ _
theorem wo_i64_ft (l h n : Int) (h1 : (l == n) = false) (h2 : (h == n) = true) (r : wrap64 (h - 1) = h - 1) (w : World) : Calls Tryz.prog 285 #[.agg #[.int .i64 l, .int .i64 h], .int .i64 n] w fun e w' => e = .returned (.agg #[.int .i64 l, .int .i64 (h - 1)]) ∧ Gr w w' := by
  have r2 : wrap64 (n - 1) = n - 1 := by rw [beq_iff_eq] at h2; rw [← h2]; exact r
  go_enter Tryz.func285, Tryz.ntmps285
  go_wp2
  go_returns
  refine ⟨?_, ?_⟩
  · rfl
  · exact Gr.alloc (Gr.alloc (Gr.refl w) _ _) _ _
theorem wo_i64_ff (l h n : Int) (h1 : (l == n) = false) (h2 : (h == n) = false) (w : World) : Calls Tryz.prog 285 #[.agg #[.int .i64 l, .int .i64 h], .int .i64 n] w fun e w' => e = .returned (.agg #[.int .i64 l, .int .i64 h]) ∧ Gr w w' := by
  go_enter Tryz.func285, Tryz.ntmps285
  go_wp2
  go_returns
  refine ⟨?_, ?_⟩
  · rfl
  · exact Gr.alloc (Gr.alloc (Gr.refl w) _ _) _ _
theorem k_without_i64 (l h n : Int) (h0 : -9223372036854775808 ≤ l) (h1 : l ≤ h) (h2 : h ≤ 9223372036854775807) (w : World) : Calls Tryz.prog 285 #[.agg #[.int .i64 l, .int .i64 h], .int .i64 n] w fun e w' => e = .returned (.agg #[.int .i64 (woL l h n), .int .i64 (woH l h n)]) ∧ Gr w w' := by
  unfold woL woH
  by_cases e1 : l = n <;> by_cases e2 : h = n
  · rw [if_pos ⟨e1, e2⟩, if_pos ⟨e1, e2⟩]
    exact wo_i64_tt l h n (by simpa using e1) (by simpa using e2) w
  · have c : ¬ (l = n ∧ h = n) := fun k => e2 k.2
    simp only [if_neg c, if_pos e1]
    exact wo_i64_tf l h n (by simpa using e1) (by simpa using e2) (by unfold wrap64; omega) w
  · have c : ¬ (l = n ∧ h = n) := fun k => e1 k.1
    simp only [if_neg c, if_neg e1, if_pos e2]
    exact wo_i64_ft l h n (by simpa using e1) (by simpa using e2) (by unfold wrap64; omega) w
  · have c : ¬ (l = n ∧ h = n) := fun k => e1 k.1
    simp only [if_neg c, if_neg e1, if_neg e2]
    exact wo_i64_ff l h n (by simpa using e1) (by simpa using e2) w
theorem k_apart_i64_0 (al ah bl bh cl ch : Int) (r1 : wrap64 (bl + 0) = bl + 0) (r2 : wrap64 (ah - 0) = ah - 0) (w : World) : Calls Tryz.prog 281 #[.agg #[.int .i64 al, .int .i64 ah], .agg #[.int .i64 bl, .int .i64 bh], .agg #[.int .i64 cl, .int .i64 ch], .int .i64 0] w fun e w' => e = .returned (.tuple #[.int .i64 (max al (bl + 0)), .int .i64 (min bh (ah - 0)), .bool true]) ∧ Gr w w' := by
  rw [Int.add_zero] at r1 ⊢
  rw [Int.sub_zero] at r2 ⊢
  go_enter Tryz.func281, Tryz.ntmps281
  go_wp2
  go_quiet (fail)
  obtain ⟨M1, hM1⟩ : ∃ M, max al (bl) = M := ⟨_, rfl⟩
  obtain ⟨M2, hM2⟩ : ∃ M, min bh (ah) = M := ⟨_, rfl⟩
  have m1 : (if al < bl then bl else al) = M1 := by omega
  have m2 : (if ah < bh then ah else bh) = M2 := by omega
  simp only [m1, m2]
  go_wp2
  go_returns
  refine ⟨?_, ?_⟩
  · rw [hM1, hM2]; rfl
  · exact gr_drewN (Gr.alloc (Gr.alloc (Gr.alloc (Gr.refl w) _ _) _ _) _ _) _
theorem k_apart_i64_1 (al ah bl bh cl ch : Int) (g1 : bl < ch) (g2 : cl < ah) (r1 : wrap64 (bl + 1) = bl + 1) (r2 : wrap64 (ah - 1) = ah - 1) (w : World) : Calls Tryz.prog 281 #[.agg #[.int .i64 al, .int .i64 ah], .agg #[.int .i64 bl, .int .i64 bh], .agg #[.int .i64 cl, .int .i64 ch], .int .i64 1] w fun e w' => e = .returned (.tuple #[.int .i64 (max al (bl + 1)), .int .i64 (min bh (ah - 1)), .bool true]) ∧ Gr w w' := by
  go_enter Tryz.func281, Tryz.ntmps281
  go_wp2
  go_quiet (fail)
  obtain ⟨M1, hM1⟩ : ∃ M, max al (bl + 1) = M := ⟨_, rfl⟩
  obtain ⟨M2, hM2⟩ : ∃ M, min bh (ah - 1) = M := ⟨_, rfl⟩
  have m1 : (if al < bl + 1 then bl + 1 else al) = M1 := by omega
  have m2 : (if ah - 1 < bh then ah - 1 else bh) = M2 := by omega
  simp only [m1, m2]
  go_wp2
  go_returns
  refine ⟨?_, ?_⟩
  · rw [hM1, hM2]; rfl
  · exact gr_drewN (Gr.alloc (Gr.alloc (Gr.alloc (Gr.refl w) _ _) _ _) _ _) _
theorem k_apart_i64_na (al ah bl bh cl ch : Int) (g1 : ch ≤ bl) (w : World) : Calls Tryz.prog 281 #[.agg #[.int .i64 al, .int .i64 ah], .agg #[.int .i64 bl, .int .i64 bh], .agg #[.int .i64 cl, .int .i64 ch], .int .i64 1] w fun e w' => e = .returned (.tuple #[.int .i64 0, .int .i64 0, .bool false]) ∧ Gr w w' := by
  go_enter Tryz.func281, Tryz.ntmps281
  go_wp2
  go_returns
  exact ⟨rfl, Gr.alloc (Gr.alloc (Gr.alloc (Gr.refl w) _ _) _ _) _ _⟩
theorem k_apart_i64_nb (al ah bl bh cl ch : Int) (g1 : bl < ch) (g2 : ah ≤ cl) (w : World) : Calls Tryz.prog 281 #[.agg #[.int .i64 al, .int .i64 ah], .agg #[.int .i64 bl, .int .i64 bh], .agg #[.int .i64 cl, .int .i64 ch], .int .i64 1] w fun e w' => e = .returned (.tuple #[.int .i64 0, .int .i64 0, .bool false]) ∧ Gr w w' := by
  go_enter Tryz.func281, Tryz.ntmps281
  go_wp2
  go_returns
  exact ⟨rfl, Gr.alloc (Gr.alloc (Gr.alloc (Gr.refl w) _ _) _ _) _ _⟩
end Go.Proofs.YtcbcijibgpaipaaGreat
