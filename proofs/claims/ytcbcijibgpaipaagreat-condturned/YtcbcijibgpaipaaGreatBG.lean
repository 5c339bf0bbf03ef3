/- Towards the statements of package bound (layer 5): each step of a round, as the program does it, in the words' terms. -/
import Derived.Test.YtcbcijibgpaipaaGreatBF
namespace Go.Proofs.YtcbcijibgpaipaaGreat
open Go.ChangeShapes Go.WideShapes Go.ChangeAt Go.RowKit
open Tn (iv)
set_option linter.unusedVariables false
set_option maxRecDepth 20000

/-- A bound's ten cells. -/
@[reducible] def cB (b : Bd) : Array Value := #[.int .u64 (iv b.tv), .int .u64 (iv b.tm), .int .u64 b.ul, .int .u64 b.uh, .int .i64 b.sl, .int .i64 b.sh, .int .u64 b.wl, .int .u64 b.wh, .int .i64 b.vl, .int .i64 b.vh]
def sX (p : Nat) (o : Option Bd) (w : World) (e : Ending) (w' : World) : Prop := match o with
  | none => e = .returned (.bool false) ∧ (∃ c : Bd, AtA w' p (cB c) 30) ∧ GrX p w w'
  | some d => e = .returned (.bool true) ∧ AtA w' p (cB d) 30 ∧ GrX p w w'
theorem spU {p : Nat} {b : Bd} {f : FuncId} {args : Array Value} {w : World} {l h : Int} (k : Calls Tryz.prog f args w fun e w' => e = .returned (.bool (!(decide (min b.uh h < max b.ul l)))) ∧ AtA w' p #[.int .u64 (iv b.tv), .int .u64 (iv b.tm), .int .u64 (eN (decide (min b.uh h < max b.ul l)) 1 (max b.ul l)), .int .u64 (eN (decide (min b.uh h < max b.ul l)) 0 (min b.uh h)), .int .i64 b.sl, .int .i64 b.sh, .int .u64 b.wl, .int .u64 b.wh, .int .i64 b.vl, .int .i64 b.vh] 30 ∧ GrX p w w') : Calls Tryz.prog f args w (sX p (mU b l h) w) := by
  refine k.mono ?_
  rintro e w' ⟨rfl, hA, hX⟩
  unfold mU
  by_cases c : min b.uh h < max b.ul l
  · rw [if_pos c]
    rw [decide_eq_true c] at hA ⊢
    exact ⟨rfl, ⟨{ b with ul := 1, uh := 0 }, hA⟩, hX⟩
  · rw [if_neg c]
    rw [decide_eq_false c] at hA ⊢
    exact ⟨rfl, hA, hX⟩
theorem spS {p : Nat} {b : Bd} {f : FuncId} {args : Array Value} {w : World} {l h : Int} (k : Calls Tryz.prog f args w fun e w' => e = .returned (.bool (!(decide (min b.sh h < max b.sl l)))) ∧ AtA w' p #[.int .u64 (iv b.tv), .int .u64 (iv b.tm), .int .u64 b.ul, .int .u64 b.uh, .int .i64 (eN (decide (min b.sh h < max b.sl l)) 1 (max b.sl l)), .int .i64 (eN (decide (min b.sh h < max b.sl l)) 0 (min b.sh h)), .int .u64 b.wl, .int .u64 b.wh, .int .i64 b.vl, .int .i64 b.vh] 30 ∧ GrX p w w') : Calls Tryz.prog f args w (sX p (mS b l h) w) := by
  refine k.mono ?_
  rintro e w' ⟨rfl, hA, hX⟩
  unfold mS
  by_cases c : min b.sh h < max b.sl l
  · rw [if_pos c]
    rw [decide_eq_true c] at hA ⊢
    exact ⟨rfl, ⟨{ b with sl := 1, sh := 0 }, hA⟩, hX⟩
  · rw [if_neg c]
    rw [decide_eq_false c] at hA ⊢
    exact ⟨rfl, hA, hX⟩
theorem spW {p : Nat} {b : Bd} {f : FuncId} {args : Array Value} {w : World} {l h : Int} (k : Calls Tryz.prog f args w fun e w' => e = .returned (.bool (!(decide (min b.wh h < max b.wl l)))) ∧ AtA w' p #[.int .u64 (iv b.tv), .int .u64 (iv b.tm), .int .u64 b.ul, .int .u64 b.uh, .int .i64 b.sl, .int .i64 b.sh, .int .u64 (eN (decide (min b.wh h < max b.wl l)) 1 (max b.wl l)), .int .u64 (eN (decide (min b.wh h < max b.wl l)) 0 (min b.wh h)), .int .i64 b.vl, .int .i64 b.vh] 30 ∧ GrX p w w') : Calls Tryz.prog f args w (sX p (mW b l h) w) := by
  refine k.mono ?_
  rintro e w' ⟨rfl, hA, hX⟩
  unfold mW
  by_cases c : min b.wh h < max b.wl l
  · rw [if_pos c]
    rw [decide_eq_true c] at hA ⊢
    exact ⟨rfl, ⟨{ b with wl := 1, wh := 0 }, hA⟩, hX⟩
  · rw [if_neg c]
    rw [decide_eq_false c] at hA ⊢
    exact ⟨rfl, hA, hX⟩
theorem spV {p : Nat} {b : Bd} {f : FuncId} {args : Array Value} {w : World} {l h : Int} (k : Calls Tryz.prog f args w fun e w' => e = .returned (.bool (!(decide (min b.vh h < max b.vl l)))) ∧ AtA w' p #[.int .u64 (iv b.tv), .int .u64 (iv b.tm), .int .u64 b.ul, .int .u64 b.uh, .int .i64 b.sl, .int .i64 b.sh, .int .u64 b.wl, .int .u64 b.wh, .int .i64 (eN (decide (min b.vh h < max b.vl l)) 1 (max b.vl l)), .int .i64 (eN (decide (min b.vh h < max b.vl l)) 0 (min b.vh h))] 30 ∧ GrX p w w') : Calls Tryz.prog f args w (sX p (mV b l h) w) := by
  refine k.mono ?_
  rintro e w' ⟨rfl, hA, hX⟩
  unfold mV
  by_cases c : min b.vh h < max b.vl l
  · rw [if_pos c]
    rw [decide_eq_true c] at hA ⊢
    exact ⟨rfl, ⟨{ b with vl := 1, vh := 0 }, hA⟩, hX⟩
  · rw [if_neg c]
    rw [decide_eq_false c] at hA ⊢
    exact ⟨rfl, hA, hX⟩
theorem spT {p : Nat} {b : Bd} {f : FuncId} {args : Array Value} {w : World} {v m : BitVec 64} (k : Calls Tryz.prog f args w fun e w' => e = .returned (.bool (Tn.meetX b.tv b.tm v m)) ∧ AtA w' p #[.int .u64 (iv (Tn.mtV b.tv b.tm v m)), .int .u64 (iv (Tn.mtM b.tv b.tm v m)), .int .u64 b.ul, .int .u64 b.uh, .int .i64 b.sl, .int .i64 b.sh, .int .u64 b.wl, .int .u64 b.wh, .int .i64 b.vl, .int .i64 b.vh] 30 ∧ GrX p w w') : Calls Tryz.prog f args w (sX p (mT b v m) w) := by
  refine k.mono ?_
  rintro e w' ⟨rfl, hA, hX⟩
  unfold Tn.mtV Tn.mtM at hA
  unfold mT
  cases c : Tn.meetX b.tv b.tm v m
  · rw [if_neg (by simp)]
    exact ⟨rfl, ⟨{ b with tv := 0#64, tm := 0#64 }, by rw [c] at hA; exact hA⟩, hX⟩
  · rw [if_pos rfl]
    exact ⟨rfl, by rw [c] at hA; exact hA, hX⟩
theorem sp1 (p : Nat) (b : Bd) (g : Good b) (w : World) (hp : AtA w p (cB b) 30) : Calls Tryz.prog 92 #[.pointer (some ⟨p, 0, none⟩)] w (sX p (st1 b) w) := spU (step1_any p b.tv b.tm b.ul b.uh b.sl b.sh b.wl b.wh b.vl b.vh w hp)
theorem sp2 (p : Nat) (b : Bd) (g : Good b) (w : World) (hp : AtA w p (cB b) 30) : Calls Tryz.prog 95 #[.pointer (some ⟨p, 0, none⟩)] w (sX p (st2 b) w) := spS (step2_any p b.tv b.tm b.ul b.uh b.sl b.sh b.wl b.wh b.vl b.vh w hp)
theorem sp3 (p : Nat) (b : Bd) (g : Good b) (w : World) (hp : AtA w p (cB b) 30) : Calls Tryz.prog 98 #[.pointer (some ⟨p, 0, none⟩)] w (sX p (st3 b) w) := spS (step3_any p b.tv b.tm b.ul b.uh b.sl b.sh b.wl b.wh b.vl b.vh g.u1 w hp)
theorem sp4 (p : Nat) (b : Bd) (g : Good b) (w : World) (hp : AtA w p (cB b) 30) : Calls Tryz.prog 100 #[.pointer (some ⟨p, 0, none⟩)] w (sX p (st4 b) w) := spU (step4_any p b.tv b.tm b.ul b.uh b.sl b.sh b.wl b.wh b.vl b.vh g.s1 w hp)
theorem sp5 (p : Nat) (b : Bd) (g : Good b) (w : World) (hp : AtA w p (cB b) 30) : Calls Tryz.prog 102 #[.pointer (some ⟨p, 0, none⟩)] w (sX p (st5 b) w) := spT (step5_any p b.tv b.tm b.ul b.uh b.sl b.sh b.wl b.wh b.vl b.vh ⟨g.u0, by have := g.u1; have := g.u2; omega⟩ ⟨by have := g.u0; have := g.u1; omega, g.u2⟩ w hp)
theorem sp6 (p : Nat) (b : Bd) (g : Good b) (w : World) (hp : AtA w p (cB b) 30) : Calls Tryz.prog 105 #[.pointer (some ⟨p, 0, none⟩)] w (sX p (st6 b) w) := spW (step6_any p b.tv b.tm b.ul b.uh b.sl b.sh b.wl b.wh b.vl b.vh w hp)
theorem sp7 (p : Nat) (b : Bd) (g : Good b) (w : World) (hp : AtA w p (cB b) 30) : Calls Tryz.prog 106 #[.pointer (some ⟨p, 0, none⟩)] w (sX p (st7 b) w) := spV (step7_any p b.tv b.tm b.ul b.uh b.sl b.sh b.wl b.wh b.vl b.vh w hp)
theorem sp8 (p : Nat) (b : Bd) (g : Good b) (w : World) (hp : AtA w p (cB b) 30) : Calls Tryz.prog 107 #[.pointer (some ⟨p, 0, none⟩)] w (sX p (st8 b) w) := spV (step8_any p b.tv b.tm b.ul b.uh b.sl b.sh b.wl b.wh b.vl b.vh w hp)
theorem sp9 (p : Nat) (b : Bd) (g : Good b) (w : World) (hp : AtA w p (cB b) 30) : Calls Tryz.prog 109 #[.pointer (some ⟨p, 0, none⟩)] w (sX p (st9 b) w) := spW (step9_any p b.tv b.tm b.ul b.uh b.sl b.sh b.wl b.wh b.vl b.vh w hp)
theorem sp10 (p : Nat) (b : Bd) (g : Good b) (w : World) (hp : AtA w p (cB b) 30) : Calls Tryz.prog 111 #[.pointer (some ⟨p, 0, none⟩)] w (sX p (st10 b) w) := spT (step10_any p b.tv b.tm b.ul b.uh b.sl b.sh b.wl b.wh b.vl b.vh ⟨g.w0, by have := g.w1; have := g.w2; omega⟩ ⟨by have := g.w0; have := g.w1; omega, by have := g.w2; omega⟩ w hp)
theorem sp11 (p : Nat) (b : Bd) (g : Good b) (w : World) (hp : AtA w p (cB b) 30) : Calls Tryz.prog 113 #[.pointer (some ⟨p, 0, none⟩)] w (sX p (st11 b) w) := by
  have h1 : InU b.ul := ⟨g.u0, by have := g.u1; have := g.u2; omega⟩
  have h2 : InU b.uh := ⟨by have := g.u0; have := g.u1; omega, g.u2⟩
  unfold st11
  by_cases c : b.ul - b.ul % 4294967296 = b.uh - b.uh % 4294967296
  · rw [if_pos c]
    have he : (b.ul - b.ul % 4294967296 != b.uh - b.uh % 4294967296) = false := by rw [bne_eq_false_iff_eq]; exact c
    unfold mW
    by_cases d : min b.wh (b.uh % 4294967296) < max b.wl (b.ul % 4294967296)
    · rw [if_pos d]
      refine (step11_none p b.tv b.tm b.ul b.uh b.sl b.sh b.wl b.wh b.vl b.vh h1 h2 he (decide_eq_true d) w hp).mono ?_
      rintro e w' ⟨rfl, hA, hX⟩
      exact ⟨rfl, ⟨{ b with wl := 1, wh := 0 }, hA⟩, hX⟩
    · rw [if_neg d]
      exact spU (b := { b with wl := max b.wl (b.ul % 4294967296), wh := min b.wh (b.uh % 4294967296) }) (step11_some p b.tv b.tm b.ul b.uh b.sl b.sh b.wl b.wh b.vl b.vh h1 h2 g.w0 g.w2 he (decide_eq_false d) w hp)
  · rw [if_neg c]
    refine (step11_apart p b.tv b.tm b.ul b.uh b.sl b.sh b.wl b.wh b.vl b.vh h1 h2 (by rw [bne_iff_ne]; exact c) w hp).mono ?_
    rintro e w' ⟨rfl, hw⟩
    rw [hw]
    exact ⟨rfl, hp, GrX.refl p w⟩
theorem sp1_yes (p : Nat) (b d : Bd) (g : Good b) (h : st1 b = some d) (w : World) (hp : AtA w p (cB b) 30) : Calls Tryz.prog 92 #[.pointer (some ⟨p, 0, none⟩)] w fun e w' => e = .returned (.bool true) ∧ AtA w' p (cB d) 30 ∧ GrX p w w' := by
  have k := sp1 p b g w hp
  rw [h] at k
  exact k
theorem sp1_no (p : Nat) (b : Bd) (g : Good b) (h : st1 b = none) (w : World) (hp : AtA w p (cB b) 30) : Calls Tryz.prog 92 #[.pointer (some ⟨p, 0, none⟩)] w fun e w' => e = .returned (.bool false) ∧ (∃ c : Bd, AtA w' p (cB c) 30) ∧ GrX p w w' := by
  have k := sp1 p b g w hp
  rw [h] at k
  exact k
theorem sp2_yes (p : Nat) (b d : Bd) (g : Good b) (h : st2 b = some d) (w : World) (hp : AtA w p (cB b) 30) : Calls Tryz.prog 95 #[.pointer (some ⟨p, 0, none⟩)] w fun e w' => e = .returned (.bool true) ∧ AtA w' p (cB d) 30 ∧ GrX p w w' := by
  have k := sp2 p b g w hp
  rw [h] at k
  exact k
theorem sp2_no (p : Nat) (b : Bd) (g : Good b) (h : st2 b = none) (w : World) (hp : AtA w p (cB b) 30) : Calls Tryz.prog 95 #[.pointer (some ⟨p, 0, none⟩)] w fun e w' => e = .returned (.bool false) ∧ (∃ c : Bd, AtA w' p (cB c) 30) ∧ GrX p w w' := by
  have k := sp2 p b g w hp
  rw [h] at k
  exact k
theorem sp3_yes (p : Nat) (b d : Bd) (g : Good b) (h : st3 b = some d) (w : World) (hp : AtA w p (cB b) 30) : Calls Tryz.prog 98 #[.pointer (some ⟨p, 0, none⟩)] w fun e w' => e = .returned (.bool true) ∧ AtA w' p (cB d) 30 ∧ GrX p w w' := by
  have k := sp3 p b g w hp
  rw [h] at k
  exact k
theorem sp3_no (p : Nat) (b : Bd) (g : Good b) (h : st3 b = none) (w : World) (hp : AtA w p (cB b) 30) : Calls Tryz.prog 98 #[.pointer (some ⟨p, 0, none⟩)] w fun e w' => e = .returned (.bool false) ∧ (∃ c : Bd, AtA w' p (cB c) 30) ∧ GrX p w w' := by
  have k := sp3 p b g w hp
  rw [h] at k
  exact k
theorem sp4_yes (p : Nat) (b d : Bd) (g : Good b) (h : st4 b = some d) (w : World) (hp : AtA w p (cB b) 30) : Calls Tryz.prog 100 #[.pointer (some ⟨p, 0, none⟩)] w fun e w' => e = .returned (.bool true) ∧ AtA w' p (cB d) 30 ∧ GrX p w w' := by
  have k := sp4 p b g w hp
  rw [h] at k
  exact k
theorem sp4_no (p : Nat) (b : Bd) (g : Good b) (h : st4 b = none) (w : World) (hp : AtA w p (cB b) 30) : Calls Tryz.prog 100 #[.pointer (some ⟨p, 0, none⟩)] w fun e w' => e = .returned (.bool false) ∧ (∃ c : Bd, AtA w' p (cB c) 30) ∧ GrX p w w' := by
  have k := sp4 p b g w hp
  rw [h] at k
  exact k
theorem sp5_yes (p : Nat) (b d : Bd) (g : Good b) (h : st5 b = some d) (w : World) (hp : AtA w p (cB b) 30) : Calls Tryz.prog 102 #[.pointer (some ⟨p, 0, none⟩)] w fun e w' => e = .returned (.bool true) ∧ AtA w' p (cB d) 30 ∧ GrX p w w' := by
  have k := sp5 p b g w hp
  rw [h] at k
  exact k
theorem sp5_no (p : Nat) (b : Bd) (g : Good b) (h : st5 b = none) (w : World) (hp : AtA w p (cB b) 30) : Calls Tryz.prog 102 #[.pointer (some ⟨p, 0, none⟩)] w fun e w' => e = .returned (.bool false) ∧ (∃ c : Bd, AtA w' p (cB c) 30) ∧ GrX p w w' := by
  have k := sp5 p b g w hp
  rw [h] at k
  exact k
theorem sp6_yes (p : Nat) (b d : Bd) (g : Good b) (h : st6 b = some d) (w : World) (hp : AtA w p (cB b) 30) : Calls Tryz.prog 105 #[.pointer (some ⟨p, 0, none⟩)] w fun e w' => e = .returned (.bool true) ∧ AtA w' p (cB d) 30 ∧ GrX p w w' := by
  have k := sp6 p b g w hp
  rw [h] at k
  exact k
theorem sp6_no (p : Nat) (b : Bd) (g : Good b) (h : st6 b = none) (w : World) (hp : AtA w p (cB b) 30) : Calls Tryz.prog 105 #[.pointer (some ⟨p, 0, none⟩)] w fun e w' => e = .returned (.bool false) ∧ (∃ c : Bd, AtA w' p (cB c) 30) ∧ GrX p w w' := by
  have k := sp6 p b g w hp
  rw [h] at k
  exact k
theorem sp7_yes (p : Nat) (b d : Bd) (g : Good b) (h : st7 b = some d) (w : World) (hp : AtA w p (cB b) 30) : Calls Tryz.prog 106 #[.pointer (some ⟨p, 0, none⟩)] w fun e w' => e = .returned (.bool true) ∧ AtA w' p (cB d) 30 ∧ GrX p w w' := by
  have k := sp7 p b g w hp
  rw [h] at k
  exact k
theorem sp7_no (p : Nat) (b : Bd) (g : Good b) (h : st7 b = none) (w : World) (hp : AtA w p (cB b) 30) : Calls Tryz.prog 106 #[.pointer (some ⟨p, 0, none⟩)] w fun e w' => e = .returned (.bool false) ∧ (∃ c : Bd, AtA w' p (cB c) 30) ∧ GrX p w w' := by
  have k := sp7 p b g w hp
  rw [h] at k
  exact k
theorem sp8_yes (p : Nat) (b d : Bd) (g : Good b) (h : st8 b = some d) (w : World) (hp : AtA w p (cB b) 30) : Calls Tryz.prog 107 #[.pointer (some ⟨p, 0, none⟩)] w fun e w' => e = .returned (.bool true) ∧ AtA w' p (cB d) 30 ∧ GrX p w w' := by
  have k := sp8 p b g w hp
  rw [h] at k
  exact k
theorem sp8_no (p : Nat) (b : Bd) (g : Good b) (h : st8 b = none) (w : World) (hp : AtA w p (cB b) 30) : Calls Tryz.prog 107 #[.pointer (some ⟨p, 0, none⟩)] w fun e w' => e = .returned (.bool false) ∧ (∃ c : Bd, AtA w' p (cB c) 30) ∧ GrX p w w' := by
  have k := sp8 p b g w hp
  rw [h] at k
  exact k
theorem sp9_yes (p : Nat) (b d : Bd) (g : Good b) (h : st9 b = some d) (w : World) (hp : AtA w p (cB b) 30) : Calls Tryz.prog 109 #[.pointer (some ⟨p, 0, none⟩)] w fun e w' => e = .returned (.bool true) ∧ AtA w' p (cB d) 30 ∧ GrX p w w' := by
  have k := sp9 p b g w hp
  rw [h] at k
  exact k
theorem sp9_no (p : Nat) (b : Bd) (g : Good b) (h : st9 b = none) (w : World) (hp : AtA w p (cB b) 30) : Calls Tryz.prog 109 #[.pointer (some ⟨p, 0, none⟩)] w fun e w' => e = .returned (.bool false) ∧ (∃ c : Bd, AtA w' p (cB c) 30) ∧ GrX p w w' := by
  have k := sp9 p b g w hp
  rw [h] at k
  exact k
theorem sp10_yes (p : Nat) (b d : Bd) (g : Good b) (h : st10 b = some d) (w : World) (hp : AtA w p (cB b) 30) : Calls Tryz.prog 111 #[.pointer (some ⟨p, 0, none⟩)] w fun e w' => e = .returned (.bool true) ∧ AtA w' p (cB d) 30 ∧ GrX p w w' := by
  have k := sp10 p b g w hp
  rw [h] at k
  exact k
theorem sp10_no (p : Nat) (b : Bd) (g : Good b) (h : st10 b = none) (w : World) (hp : AtA w p (cB b) 30) : Calls Tryz.prog 111 #[.pointer (some ⟨p, 0, none⟩)] w fun e w' => e = .returned (.bool false) ∧ (∃ c : Bd, AtA w' p (cB c) 30) ∧ GrX p w w' := by
  have k := sp10 p b g w hp
  rw [h] at k
  exact k
theorem sp11_yes (p : Nat) (b d : Bd) (g : Good b) (h : st11 b = some d) (w : World) (hp : AtA w p (cB b) 30) : Calls Tryz.prog 113 #[.pointer (some ⟨p, 0, none⟩)] w fun e w' => e = .returned (.bool true) ∧ AtA w' p (cB d) 30 ∧ GrX p w w' := by
  have k := sp11 p b g w hp
  rw [h] at k
  exact k
theorem sp11_no (p : Nat) (b : Bd) (g : Good b) (h : st11 b = none) (w : World) (hp : AtA w p (cB b) 30) : Calls Tryz.prog 113 #[.pointer (some ⟨p, 0, none⟩)] w fun e w' => e = .returned (.bool false) ∧ (∃ c : Bd, AtA w' p (cB c) 30) ∧ GrX p w w' := by
  have k := sp11 p b g w hp
  rw [h] at k
  exact k
/-- The steps by their numbers, from 0; so many of them, one behind the other; so many rounds. -/
def stN (n : Nat) : Bd → Option Bd := match n with
  | 0 => st1
  | 1 => st2
  | 2 => st3
  | 3 => st4
  | 4 => st5
  | 5 => st6
  | 6 => st7
  | 7 => st8
  | 8 => st9
  | 9 => st10
  | _ => st11
def chain (b : Bd) : Nat → Option Bd
  | 0 => some b
  | n + 1 => (chain b n).bind (stN n)
def rnd (b : Bd) : Nat → Option Bd
  | 0 => some b
  | n + 1 => (rnd b n).bind roundM
theorem chain_all (b : Bd) : chain b 11 = roundM b := rfl
theorem rnd_all (b : Bd) : rnd b 3 = ((roundM b).bind roundM).bind roundM := rfl
theorem chain_none {b : Bd} {n : Nat} (h : chain b n = none) : ∀ d, chain b (n + d) = none
  | 0 => h
  | d + 1 => by rw [← Nat.add_assoc, chain, chain_none h d]; rfl
theorem rnd_none {b : Bd} {n : Nat} (h : rnd b n = none) : ∀ d, rnd b (n + d) = none
  | 0 => h
  | d + 1 => by rw [← Nat.add_assoc, rnd, rnd_none h d]; rfl
theorem round_stop {b c : Bd} {n : Nat} (h : chain b n = some c) (hs : stN n c = none) (hn : n < 11) : roundM b = none := by
  have h1 : chain b (n + 1) = none := by rw [chain, h]; exact hs
  have := chain_none h1 (10 - n)
  rw [show n + 1 + (10 - n) = 11 by omega] at this
  exact this
theorem sync_stop {b c : Bd} {n : Nat} (hb : badM b = false) (h : rnd b n = some c) (hs : roundM c = none) (hn : n < 3) : syncM b = nothingM := by
  have h1 : rnd b (n + 1) = none := by rw [rnd, h]; exact hs
  have h2 := rnd_none h1 (2 - n)
  rw [show n + 1 + (2 - n) = 3 by omega, rnd_all] at h2
  unfold syncM
  rw [hb, h2]
  rfl
theorem sync_done {b c : Bd} (hb : badM b = false) (h : rnd b 3 = some c) : syncM b = c := by
  rw [rnd_all] at h
  unfold syncM
  rw [hb, h]
  rfl
theorem sync_bad {b : Bd} (hb : badM b = true) : syncM b = nothingM := by
  unfold syncM
  rw [hb]
  rfl
theorem Good.step {b c : Bd} {n : Nat} (g : Good b) (e : stN n b = some c) : Good c := by
  unfold stN at e
  split at e
  · exact g.mU e
  · exact g.mS e
  · exact g.mS e
  · exact g.mU e
  · exact g.mT e
  · exact g.mW e
  · exact g.mV e
  · exact g.mV e
  · exact g.mW e
  · exact g.mT e
  · exact g.st11 e
end Go.Proofs.YtcbcijibgpaipaaGreat
