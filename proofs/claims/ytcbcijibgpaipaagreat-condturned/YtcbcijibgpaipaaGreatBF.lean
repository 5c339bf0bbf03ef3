/- Towards the statements of package bound (layer 5): the last step of a round, as the program does it. -/
import Derived.Test.YtcbcijibgpaipaaGreatBE
namespace Go.Proofs.YtcbcijibgpaipaaGreat
open Go.ChangeShapes Go.WideShapes Go.ChangeAt Go.RowKit
open Tn (iv)
set_option linter.unusedVariables false
set_option maxRecDepth 20000

theorem meetW_yes (p : Nat) (tv tm : BitVec 64) (ul uh sl sh wl wh vl vh : Int) (bl bh : Int) (h : decide (min wh bh < max wl bl) = false) (w : World) (hp : AtA w p #[.int .u64 (iv tv), .int .u64 (iv tm), .int .u64 ul, .int .u64 uh, .int .i64 sl, .int .i64 sh, .int .u64 wl, .int .u64 wh, .int .i64 vl, .int .i64 vh] 30) : Calls Tryz.prog 93 #[.pointer (some ⟨p, 6, none⟩), .agg #[.int .u64 bl, .int .u64 bh]] w fun e w' => e = .returned (.bool true) ∧ AtA w' p #[.int .u64 (iv tv), .int .u64 (iv tm), .int .u64 ul, .int .u64 uh, .int .i64 sl, .int .i64 sh, .int .u64 (max wl bl), .int .u64 (min wh bh), .int .i64 vl, .int .i64 vh] 30 ∧ GrX p w w' := by
  have k := meetW_any p tv tm ul uh sl sh wl wh vl vh bl bh w hp
  rw [h] at k
  exact k
theorem meetW_no (p : Nat) (tv tm : BitVec 64) (ul uh sl sh wl wh vl vh : Int) (bl bh : Int) (h : decide (min wh bh < max wl bl) = true) (w : World) (hp : AtA w p #[.int .u64 (iv tv), .int .u64 (iv tm), .int .u64 ul, .int .u64 uh, .int .i64 sl, .int .i64 sh, .int .u64 wl, .int .u64 wh, .int .i64 vl, .int .i64 vh] 30) : Calls Tryz.prog 93 #[.pointer (some ⟨p, 6, none⟩), .agg #[.int .u64 bl, .int .u64 bh]] w fun e w' => e = .returned (.bool false) ∧ AtA w' p #[.int .u64 (iv tv), .int .u64 (iv tm), .int .u64 ul, .int .u64 uh, .int .i64 sl, .int .i64 sh, .int .u64 1, .int .u64 0, .int .i64 vl, .int .i64 vh] 30 ∧ GrX p w w' := by
  have k := meetW_any p tv tm ul uh sl sh wl wh vl vh bl bh w hp
  rw [h] at k
  exact k
set_option maxHeartbeats 2000000 in
theorem step11_apart (p : Nat) (tv tm : BitVec 64) (ul uh sl sh wl wh vl vh : Int) (h1 : InU ul) (h2 : InU uh) (he : (ul - ul % 4294967296 != uh - uh % 4294967296) = true) (w : World) (hp : AtA w p #[.int .u64 (iv tv), .int .u64 (iv tm), .int .u64 ul, .int .u64 uh, .int .i64 sl, .int .i64 sh, .int .u64 wl, .int .u64 wh, .int .i64 vl, .int .i64 vh] 30) : Calls Tryz.prog 113 #[.pointer (some ⟨p, 0, none⟩)] w fun e w' => e = .returned (.bool true) ∧ w' = w := by
  have c2 := hp.cell 2
  have c3 := hp.cell 3
  simp only [List.getElem?_toArray, List.getElem?_cons_zero, List.getElem?_cons_succ] at c2 c3
  have q1 := and_high ul h1
  have q2 := and_high uh h2
  clear hp
  go_enter Tryz.func113, Tryz.ntmps113
  go_wp2_with fail
  go_ret
  exact ⟨rfl, rfl⟩
theorem drewX {p : Nat} {w w' : World} (h : GrX p w.drew w') : GrX p w w' := (GrX.of (Gr.refl w).drew).trans h
set_option maxHeartbeats 2000000 in
theorem step11_none (p : Nat) (tv tm : BitVec 64) (ul uh sl sh wl wh vl vh : Int) (h1 : InU ul) (h2 : InU uh) (he : (ul - ul % 4294967296 != uh - uh % 4294967296) = false) (ef : decide (min wh (uh % 4294967296) < max wl (ul % 4294967296)) = true) (w : World) (hp : AtA w p #[.int .u64 (iv tv), .int .u64 (iv tm), .int .u64 ul, .int .u64 uh, .int .i64 sl, .int .i64 sh, .int .u64 wl, .int .u64 wh, .int .i64 vl, .int .i64 vh] 30) : Calls Tryz.prog 113 #[.pointer (some ⟨p, 0, none⟩)] w fun e w' => e = .returned (.bool false) ∧ AtA w' p #[.int .u64 (iv tv), .int .u64 (iv tm), .int .u64 ul, .int .u64 uh, .int .i64 sl, .int .i64 sh, .int .u64 1, .int .u64 0, .int .i64 vl, .int .i64 vh] 30 ∧ GrX p w w' := by
  have c2 := hp.cell 2
  have c3 := hp.cell 3
  simp only [List.getElem?_toArray, List.getElem?_cons_zero, List.getElem?_cons_succ] at c2 c3
  have q1 := and_high ul h1
  have q2 := and_high uh h2
  have HQ : Hid (AtA w p _ 30) := hp
  clear hp
  go_enter Tryz.func113, Tryz.ntmps113
  go_wp2_with fail
  go_region_with (first
    | (go_at_call 52; refine (lower_any _ (by assumption) _).mono ?_; rintro e w1 ⟨rfl, hw⟩; rw [hw]; clear hw)
    | (go_at_call 93; refine (meetW_no p tv tm ul uh sl sh wl wh vl vh _ _ ef _ (by first | exact HQ.out | exact HQ.out.drew)).mono ?_; rintro e w2 ⟨rfl, hA, hX⟩; have HR : Hid (AtA w2 p _ 30) := hA; have HS : Hid (GrX p w w2) := (by first | exact hX | exact drewX hX); clear hA hX))
  all_goals go_wp2_with fail
  all_goals go_ret
  all_goals exact ⟨rfl, HR.out, HS.out⟩
set_option maxHeartbeats 4000000 in
theorem step11_some (p : Nat) (tv tm : BitVec 64) (ul uh sl sh wl wh vl vh : Int) (h1 : InU ul) (h2 : InU uh) (w0 : 0 ≤ wl) (w2 : wh ≤ 4294967295) (he : (ul - ul % 4294967296 != uh - uh % 4294967296) = false) (ef : decide (min wh (uh % 4294967296) < max wl (ul % 4294967296)) = false) (w : World) (hp : AtA w p #[.int .u64 (iv tv), .int .u64 (iv tm), .int .u64 ul, .int .u64 uh, .int .i64 sl, .int .i64 sh, .int .u64 wl, .int .u64 wh, .int .i64 vl, .int .i64 vh] 30) : Calls Tryz.prog 113 #[.pointer (some ⟨p, 0, none⟩)] w fun e w' => e = .returned (.bool (!(decide (min uh ((ul - ul % 4294967296) + (min wh (uh % 4294967296))) < max ul ((ul - ul % 4294967296) + (max wl (ul % 4294967296))))))) ∧ AtA w' p #[.int .u64 (iv tv), .int .u64 (iv tm), .int .u64 (eN (decide (min uh ((ul - ul % 4294967296) + (min wh (uh % 4294967296))) < max ul ((ul - ul % 4294967296) + (max wl (ul % 4294967296))))) 1 (max ul ((ul - ul % 4294967296) + (max wl (ul % 4294967296))))), .int .u64 (eN (decide (min uh ((ul - ul % 4294967296) + (min wh (uh % 4294967296))) < max ul ((ul - ul % 4294967296) + (max wl (ul % 4294967296))))) 0 (min uh ((ul - ul % 4294967296) + (min wh (uh % 4294967296))))), .int .i64 sl, .int .i64 sh, .int .u64 (max wl (ul % 4294967296)), .int .u64 (min wh (uh % 4294967296)), .int .i64 vl, .int .i64 vh] 30 ∧ GrX p w w' := by
  have c2 := hp.cell 2
  have c3 := hp.cell 3
  simp only [List.getElem?_toArray, List.getElem?_cons_zero, List.getElem?_cons_succ] at c2 c3
  have q1 := and_high ul h1
  have q2 := and_high uh h2
  have b1 : 0 ≤ (max wl (ul % 4294967296)) ∧ (max wl (ul % 4294967296)) < 4294967296 := by
    have := of_decide_eq_false ef
    unfold InU at h1 h2
    omega
  have b2 : 0 ≤ (min wh (uh % 4294967296)) ∧ (min wh (uh % 4294967296)) < 4294967296 := by
    have := of_decide_eq_false ef
    unfold InU at h1 h2
    omega
  have q3 := or_high ul (max wl (ul % 4294967296)) h1 b1
  have q4 := or_high ul (min wh (uh % 4294967296)) h1 b2
  have HQ : Hid (AtA w p _ 30) := hp
  clear hp b1 b2
  go_enter Tryz.func113, Tryz.ntmps113
  go_wp2_with fail
  go_region_with (first
    | (go_at_call 52; refine (lower_any _ (by assumption) _).mono ?_; rintro e w1 ⟨rfl, hw⟩; rw [hw]; clear hw)
    | (go_at_call 93; refine (meetW_yes p tv tm ul uh sl sh wl wh vl vh _ _ ef _ (by first | exact HQ.out | exact HQ.out.drew)).mono ?_; rintro e w2 ⟨rfl, hA, hX⟩; have HR : Hid (AtA w2 p _ 30) := hA; have HS : Hid (GrX p w w2) := (by first | exact hX | exact drewX hX); clear hA hX))
  all_goals go_wp2_with fail
  all_goals
    have d6 := HR.out.cell 6
    have d7 := HR.out.cell 7
    simp only [List.getElem?_toArray, List.getElem?_cons_zero, List.getElem?_cons_succ] at d6 d7
    go_region_with (first
      | (go_at_call 93; refine (meetU_any p tv tm ul uh sl sh (max wl (ul % 4294967296)) (min wh (uh % 4294967296)) vl vh _ _ _ (by first | exact HR.out | exact HR.out.drew)).mono ?_; rintro e w3 ⟨rfl, hA, hX⟩; have HT : Hid (AtA w3 p _ 30) := hA; have HY : Hid (GrX p w w3) := HS.out.trans (by first | exact hX | exact drewX hX); clear hA hX))
  all_goals go_wp2_with fail
  all_goals go_ret
  all_goals exact ⟨rfl, HT.out, HY.out⟩
end Go.Proofs.YtcbcijibgpaipaaGreat
