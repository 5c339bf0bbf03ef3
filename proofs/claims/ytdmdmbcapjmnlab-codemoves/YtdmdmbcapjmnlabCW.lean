/- Towards the statements of package code (layer 8): Check at the programs that the document names. -/
import Derived.Test.YtdmdmbcapjmnlabCV
namespace Go.Proofs.Ytdmdmbcapjmnlab
set_option linter.unusedVariables false
set_option linter.unusedSimpArgs false
set_option maxRecDepth 20000

def slMov : Sl := ⟨0xb7, 0, 0, 0, 0⟩
def slExit : Sl := ⟨0x95, 0, 0, 0, 0⟩
def lA : List Sl := [slMov, slExit]
def lB : List Sl := [slMov]
def lC : List Sl := [⟨5, 0, 0, -1, 0⟩, slExit]
def lD : List Sl := [⟨0x85, 0, 1, 0, 1⟩, slExit, slMov, slExit]
def lE : List Sl := [⟨0x85, 0, 1, 0, -1⟩, slExit]
/-- What is reached, as a list that is closed. -/
theorem rch_closed {succ : Nat → List Nat} {fs C : List Nat} (h1 : ∀ u ∈ fs, ∀ t ∈ succ u, t ∈ C) (h2 : ∀ u ∈ C, ∀ t ∈ succ u, t ∈ C) {j : Nat} (h : Rch succ fs j) : j ∈ C := by
  induction h with
  | one s t hu ht => exact h1 s hu t ht
  | more u t _ ht ih => exact h2 u ih t ht
theorem hsM_of {L : List Sl} {n : List Int} {q : List Nat} (h : namedL L (begL (bgM L) 0 L.length) = n) (hs : n.Pairwise (fun x y => decide (x ≤ y) = true)) (hq : (Lib.compact n).map Int.toNat = q) : hsM L = q := by
  rw [hsM, headsM, h, List.mergeSort_of_pairwise hs, hq]
theorem hsA : hsM lA = [0] := hsM_of (n := [0]) (by decide +kernel) (by decide) (by decide +kernel)
theorem hsB : hsM lB = [0] := hsM_of (n := [0]) (by decide +kernel) (by decide) (by decide +kernel)
theorem hsC : hsM lC = [0] := hsM_of (n := [0]) (by decide +kernel) (by decide) (by decide +kernel)
theorem hsD : hsM lD = [0, 2] := hsM_of (n := [0, 2]) (by decide +kernel) (by decide) (by decide +kernel)
theorem hsE : hsM lE = [0] := hsM_of (n := [0, 0]) (by decide +kernel) (by decide) (by decide +kernel)
theorem leastX_none {xs : List Int} {is : Int → Bool} {e : Int} (h : ∀ x ∈ xs, is x = false) : leastX xs is e = (0, 0) := by
  unfold leastX
  have : xs.find? is = none := List.find?_eq_none.2 fun x hx => by simp [h x hx]
  rw [this]
theorem leastX_at {xs : List Int} {is : Int → Bool} {e x : Int} {a b : List Int} (hx : xs = a ++ x :: b) (h : ∀ y ∈ a, is y = false) (hi : is x = true) : leastX xs is e = (x, e) := by
  unfold leastX
  have : xs.find? is = some x := by
    rw [hx, List.find?_append, List.find?_eq_none.2 (fun y hy => by simp [h y hy]), List.find?_cons, hi]; rfl
  rw [this]
theorem missC_head {L : List Sl} {k : Nat} (h : k = (subOf (slM L) (hlM L) k).1) : missC L k = false := by
  classical
  unfold missC
  exact decide_eq_false fun hh => hh.2 h
theorem missC_led {L : List Sl} {k : Nat} (h : Rch (leadsN L) ((slM L).map (·.1)) k) : missC L k = false := by
  classical
  unfold missC
  exact decide_eq_false fun hh => hh.1 h
theorem missC_true {L : List Sl} {k : Nat} (h : ¬ Rch (leadsN L) ((slM L).map (·.1)) k) (h2 : k ≠ (subOf (slM L) (hlM L) k).1) : missC L k = true := by
  classical
  unfold missC
  exact decide_eq_true ⟨h, h2⟩
theorem loopB_no {L : List Sl} {Bg : List Bool} {SL : List (Nat × Nat)} {HL : List Nat} {k : Nat} (h : k ≠ (SL[HL[k]?.getD 0]?.getD (0, 0)).1) : loopB L Bg SL HL k = false := by
  classical
  unfold loopB
  exact decide_eq_false fun hh => h hh.1
theorem loopB_not {L : List Sl} {Bg : List Bool} {SL : List (Nat × Nat)} {HL : List Nat} {k : Nat} (h : ¬ Rch (callsN L Bg SL HL) [HL[k]?.getD 0] (HL[k]?.getD 0)) : loopB L Bg SL HL k = false := by
  classical
  unfold loopB
  exact decide_eq_false fun hh => h hh.2
theorem loopB_yes {L : List Sl} {Bg : List Bool} {SL : List (Nat × Nat)} {HL : List Nat} {k : Nat} (h0 : k = (SL[HL[k]?.getD 0]?.getD (0, 0)).1) (h : Rch (callsN L Bg SL HL) [HL[k]?.getD 0] (HL[k]?.getD 0)) : loopB L Bg SL HL k = true := by
  classical
  unfold loopB
  exact decide_eq_true ⟨h0, h⟩
theorem slA : slM lA = [(0, 2)] := by rw [slM, hsA]; decide +kernel
theorem hlA : hlM lA = [0, 0] := by rw [hlM, hsA]; decide +kernel
theorem bgA : begM lA = [0, 1] := by decide +kernel
theorem slB : slM lB = [(0, 1)] := by rw [slM, hsB]; decide +kernel
theorem hlB : hlM lB = [0] := by rw [hlM, hsB]; decide +kernel
theorem bgB : begM lB = [0] := by decide +kernel
theorem slC : slM lC = [(0, 2)] := by rw [slM, hsC]; decide +kernel
theorem hlC : hlM lC = [0, 0] := by rw [hlM, hsC]; decide +kernel
theorem bgC : begM lC = [0, 1] := by decide +kernel
theorem slD : slM lD = [(0, 2), (2, 4)] := by rw [slM, hsD]; decide +kernel
theorem hlD : hlM lD = [0, 0, 1, 1] := by rw [hlM, hsD]; decide +kernel
theorem bgD : begM lD = [0, 1, 2, 3] := by decide +kernel
theorem slE : slM lE = [(0, 2)] := by rw [slM, hsE]; decide +kernel
theorem hlE : hlM lE = [0, 0] := by rw [hlM, hsE]; decide +kernel
theorem bgE : begM lE = [0, 1] := by decide +kernel
theorem missA : ∀ x ∈ begM lA, (fun x : Int => missC lA x.toNat) x = false := by
  rw [bgA]
  intro x hx
  simp only [List.mem_cons, List.not_mem_nil, or_false] at hx
  rcases hx with rfl | rfl
  · exact missC_head (by rw [slA, hlA]; decide +kernel)
  · exact missC_led (.one 0 1 (by rw [slA]; decide) (by decide +kernel))
theorem missD : ∀ x ∈ begM lD, (fun x : Int => missC lD x.toNat) x = false := by
  rw [bgD]
  intro x hx
  simp only [List.mem_cons, List.not_mem_nil, or_false] at hx
  rcases hx with rfl | rfl | rfl | rfl
  · exact missC_head (by rw [slD, hlD]; decide +kernel)
  · exact missC_led (.one 0 1 (by rw [slD]; decide) (by decide +kernel))
  · exact missC_head (by rw [slD, hlD]; decide +kernel)
  · exact missC_led (.one 2 3 (by rw [slD]; decide) (by decide +kernel))
theorem missE : ∀ x ∈ begM lE, (fun x : Int => missC lE x.toNat) x = false := by
  rw [bgE]
  intro x hx
  simp only [List.mem_cons, List.not_mem_nil, or_false] at hx
  rcases hx with rfl | rfl
  · exact missC_head (by rw [slE, hlE]; decide +kernel)
  · exact missC_led (.one 0 1 (by rw [slE]; decide) (by decide +kernel))
theorem loopA : ∀ x ∈ begM lA, (fun x : Int => loopB lA (bgM lA) (slM lA) (hlM lA) x.toNat) x = false := by
  rw [bgA]
  intro x hx
  simp only [List.mem_cons, List.not_mem_nil, or_false] at hx
  rcases hx with rfl | rfl
  · refine loopB_not fun h => ?_
    rw [slA, hlA] at h
    exact absurd (rch_closed (C := []) (by decide +kernel) (by decide +kernel) h) (by decide +kernel)
  · exact loopB_no (by rw [slA, hlA]; decide +kernel)
theorem loopD : ∀ x ∈ begM lD, (fun x : Int => loopB lD (bgM lD) (slM lD) (hlM lD) x.toNat) x = false := by
  rw [bgD]
  intro x hx
  simp only [List.mem_cons, List.not_mem_nil, or_false] at hx
  rcases hx with rfl | rfl | rfl | rfl
  · refine loopB_not fun h => ?_
    rw [slD, hlD] at h
    exact absurd (rch_closed (C := [1]) (by decide +kernel) (by decide +kernel) h) (by decide +kernel)
  · exact loopB_no (by rw [slD, hlD]; decide +kernel)
  · refine loopB_not fun h => ?_
    rw [slD, hlD] at h
    exact absurd (rch_closed (C := []) (by decide +kernel) (by decide +kernel) h) (by decide +kernel)
  · exact loopB_no (by rw [slD, hlD]; decide +kernel)
theorem chkA : chkM lA = (0, 0) := by
  refine chk_all fun m hm => ?_
  rcases (show m = 0 ∨ m = 1 ∨ m = 2 ∨ m = 3 ∨ m = 4 ∨ m = 5 ∨ m = 6 ∨ m = 7 by omega) with rfl | rfl | rfl | rfl | rfl | rfl | rfl | rfl
  · decide +kernel
  · decide +kernel
  · decide +kernel
  · show (leastX (begM lA) (strayB lA (bgM lA)) 81).2 = 0
    decide +kernel
  · show (partX lA).2 = 0
    rw [partX, hsA]; rfl
  · show (leastX (begM lA) (leaveB lA (slM lA) (hlM lA)) 82).2 = 0
    rw [slM, hlM, hsA]
    decide +kernel
  · show (leastX (begM lA) (fun x => missC lA x.toNat) 84).2 = 0
    rw [leastX_none (missA)]
  · show (leastX (begM lA) (fun x => loopB lA (bgM lA) (slM lA) (hlM lA) x.toNat) 83).2 = 0
    rw [leastX_none (loopA)]
theorem chkD : chkM lD = (0, 0) := by
  refine chk_all fun m hm => ?_
  rcases (show m = 0 ∨ m = 1 ∨ m = 2 ∨ m = 3 ∨ m = 4 ∨ m = 5 ∨ m = 6 ∨ m = 7 by omega) with rfl | rfl | rfl | rfl | rfl | rfl | rfl | rfl
  · decide +kernel
  · decide +kernel
  · decide +kernel
  · show (leastX (begM lD) (strayB lD (bgM lD)) 81).2 = 0
    decide +kernel
  · show (partX lD).2 = 0
    rw [partX, hsD]; rfl
  · show (leastX (begM lD) (leaveB lD (slM lD) (hlM lD)) 82).2 = 0
    rw [slM, hlM, hsD]
    decide +kernel
  · show (leastX (begM lD) (fun x => missC lD x.toNat) 84).2 = 0
    rw [leastX_none (missD)]
  · show (leastX (begM lD) (fun x => loopB lD (bgM lD) (slM lD) (hlM lD) x.toNat) 83).2 = 0
    rw [leastX_none (loopD)]
theorem chkB : chkM lB = (0, 82) := by
  have e : chkX lB 5 = (0, 82) := by
    show leastX (begM lB) (leaveB lB (slM lB) (hlM lB)) 82 = _
    rw [slB, hlB]
    decide +kernel
  refine (chk_err (k := 5) (by decide) (fun m hm => ?_) (by rw [e]; decide)).trans e
  rcases (show m = 0 ∨ m = 1 ∨ m = 2 ∨ m = 3 ∨ m = 4 by omega) with rfl | rfl | rfl | rfl | rfl
  · decide +kernel
  · decide +kernel
  · decide +kernel
  · show (leastX (begM lB) (strayB lB (bgM lB)) 81).2 = 0
    decide +kernel
  · show (partX lB).2 = 0
    rw [partX, hsB]; rfl
theorem chkC : chkM lC = (1, 84) := by
  have e : chkX lC 6 = (1, 84) := by
    refine leastX_at (a := [0]) (x := 1) (b := []) bgC (fun y hy => ?_) (missC_true (fun h => ?_) (by rw [slC, hlC]; decide +kernel))
    · simp at hy; subst hy; exact missC_head (by rw [slC, hlC]; decide +kernel)
    · rw [slC] at h
      exact absurd (rch_closed (C := [0]) (by decide +kernel) (by decide +kernel) h) (by decide +kernel)
  refine (chk_err (k := 6) (by decide) (fun m hm => ?_) (by rw [e]; decide)).trans e
  rcases (show m = 0 ∨ m = 1 ∨ m = 2 ∨ m = 3 ∨ m = 4 ∨ m = 5 by omega) with rfl | rfl | rfl | rfl | rfl | rfl
  · decide +kernel
  · decide +kernel
  · decide +kernel
  · show (leastX (begM lC) (strayB lC (bgM lC)) 81).2 = 0
    decide +kernel
  · show (partX lC).2 = 0
    rw [partX, hsC]; rfl
  · show (leastX (begM lC) (leaveB lC (slM lC) (hlM lC)) 82).2 = 0
    rw [slM, hlM, hsC]
    decide +kernel
theorem chkE : chkM lE = (0, 83) := by
  have e : chkX lE 7 = (0, 83) := by
    have hr : Rch (callsN lE (bgM lE) (slM lE) (hlM lE)) [(hlM lE)[(0 : Nat)]?.getD 0] ((hlM lE)[(0 : Nat)]?.getD 0) := by
      rw [slE, hlE]
      exact .one 0 0 (by decide) (by decide +kernel)
    exact leastX_at (a := []) (x := 0) (b := [1]) bgE (fun y hy => by cases hy) (loopB_yes (k := 0) (by rw [slE, hlE]; decide +kernel) hr)
  refine (chk_err (k := 7) (by decide) (fun m hm => ?_) (by rw [e]; decide)).trans e
  rcases (show m = 0 ∨ m = 1 ∨ m = 2 ∨ m = 3 ∨ m = 4 ∨ m = 5 ∨ m = 6 by omega) with rfl | rfl | rfl | rfl | rfl | rfl | rfl
  · decide +kernel
  · decide +kernel
  · decide +kernel
  · show (leastX (begM lE) (strayB lE (bgM lE)) 81).2 = 0
    decide +kernel
  · show (partX lE).2 = 0
    rw [partX, hsE]; rfl
  · show (leastX (begM lE) (leaveB lE (slM lE) (hlM lE)) 82).2 = 0
    rw [slM, hlM, hsE]
    decide +kernel
  · show (leastX (begM lE) (fun x => missC lE x.toNat) 84).2 = 0
    rw [leastX_none (missE)]
theorem chk0 : chkM [] = (0, 2) := chk_err (k := 0) (by decide) (fun m hm => by omega) (by decide +kernel)
end Go.Proofs.Ytdmdmbcapjmnlab
