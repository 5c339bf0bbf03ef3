/- Towards the statements of package insn (layer 7): kinds: contracts of the document's Kind, for every instruction. -/
import Derived.Test.YtdmdmbcapjmnlabKC
namespace Go.Proofs.Ytdmdmbcapjmnlab
open Go.ChangeShapes Go.WideShapes Go.ChangeAt Go.RowKit
set_option linter.unusedVariables false
set_option maxRecDepth 20000
set_option linter.unusedSimpArgs false

def rjV (o d s f i : Int) : Int :=
  if askB (o / 16) = true ∧ isB d s f i true (xB o) true (!xB o) = true then 5
  else if o % 8 = 5 ∧ xB o = false then
    (if o / 16 = 0 ∧ isB d s f i false false true false = true then 10 else if o / 16 = 9 ∧ isB d s f i false false false false = true then 8
     else if o / 16 = 8 ∧ isB d s f i false true false true = true ∧ s = 0 then 6 else if o / 16 = 8 ∧ isB d s f i false true false true = true ∧ s = 1 then 7 else 0)
  else 0
def rkV (o d s f i : Int) : Int :=
  if o % 8 = 4 ∨ o % 8 = 7 then (if 12 < o / 16 ∨ (o / 16 = 8 ∧ xB o = true) ∨ d = 10 ∨ isB d s f i true (xB o) false (!xB o && !decide (o / 16 = 8)) = false then 0 else 1)
  else if o % 8 = 1 then (if o / 32 = 3 ∧ ¬ d = 10 ∧ isB d s f i true true true false = true then 2 else 0)
  else if o % 8 = 2 then (if o / 32 = 3 ∧ isB d s f i true false true true = true then 3 else 0)
  else if o % 8 = 3 then (if o / 32 = 3 ∧ isB d s f i true true true false = true then 4 else 0)
  else if o % 8 = 0 then (if o = 24 ∧ ¬ d = 10 ∧ s ≤ 2 ∧ isB d s f i true true false true = true then 9 else 0)
  else rjV o d s f i
theorem rk_eq (o d s f i : Int) (h0 : 0 ≤ o) (h1 : o ≤ 255) (d0 : 0 ≤ d) (d1 : d ≤ 255) (s0 : 0 ≤ s) (s1 : s ≤ 255) : rkV o d s f i = kV o d s f i := by
  have hm : o % 8 = 0 ∨ o % 8 = 1 ∨ o % 8 = 2 ∨ o % 8 = 3 ∨ o % 8 = 4 ∨ o % 8 = 5 ∨ o % 8 = 6 ∨ o % 8 = 7 := by omega
  rcases hm with hc | hc | hc | hc | hc | hc | hc | hc
  · by_cases h : o = 24 ∧ s ≤ 2
    · have hn : nmV o s = 9 := by simp [nmV, hc, h]
      simp only [rkV, hc, kV, hn, kIf, mayB, zB, isB]; simp; grind
    · have hn : nmV o s = 0 := by simp [nmV, hc, h]
      simp only [rkV, hc, kV, hn, kIf, mayB, zB, isB]; simp; grind
  · by_cases h : o / 32 = 3
    · have hn : nmV o s = 2 := by simp [nmV, hc, h]
      simp only [rkV, hc, kV, hn, kIf, mayB, zB, isB]; simp; grind
    · have hn : nmV o s = 0 := by simp [nmV, hc, h]
      simp only [rkV, hc, kV, hn, kIf, mayB, zB, isB]; simp; grind
  · by_cases h : o / 32 = 3
    · have hn : nmV o s = 3 := by simp [nmV, hc, h]
      simp only [rkV, hc, kV, hn, kIf, mayB, zB, isB]; simp; grind
    · have hn : nmV o s = 0 := by simp [nmV, hc, h]
      simp only [rkV, hc, kV, hn, kIf, mayB, zB, isB]; simp; grind
  · by_cases h : o / 32 = 3
    · have hn : nmV o s = 4 := by simp [nmV, hc, h]
      simp only [rkV, hc, kV, hn, kIf, mayB, zB, isB]; simp; grind
    · have hn : nmV o s = 0 := by simp [nmV, hc, h]
      simp only [rkV, hc, kV, hn, kIf, mayB, zB, isB]; simp; grind
  · by_cases h : o / 16 ≤ 12 ∧ ¬ (o / 16 = 8 ∧ xB o = true)
    · have hn : nmV o s = 1 := by simp only [nmV, hc, reckV, h]; simp
      cases hx : xB o <;> simp only [rkV, hc, kV, hn, kIf, mayB, zB, isB, hx] <;> simp <;> grind
    · have hn : nmV o s = 0 := by simp only [nmV, hc, reckV, h]; simp
      cases hx : xB o <;> simp only [rkV, hc, kV, hn, kIf, mayB, zB, isB, hx] <;> simp <;> grind
  · cases hA : askB (o / 16)
    · have hn : nmV o s = noAskV o s := by simp [nmV, hc, hA]
      cases hx : xB o
      · have hv : noAskV o s = (if o / 16 = 0 then 10 else if o / 16 = 9 then 8 else if o / 16 = 8 then callV s else 0) := by simp [noAskV, hx]
        by_cases g0 : o / 16 = 0
        · have hk : nmV o s = 10 := by rw [hn, hv]; simp [g0]
          simp only [rkV, rjV, hc, hA, hx, kV, hk, kIf, mayB, zB, isB]; simp; grind
        · by_cases g9 : o / 16 = 9
          · have hk : nmV o s = 8 := by rw [hn, hv]; simp [g9]
            simp only [rkV, rjV, hc, hA, hx, kV, hk, kIf, mayB, zB, isB]; simp; grind
          · by_cases g8 : o / 16 = 8
            · by_cases t0 : s = 0
              · have hk : nmV o s = 6 := by rw [hn, hv]; simp [g8, callV, t0]
                simp only [rkV, rjV, hc, hA, hx, kV, hk, kIf, mayB, zB, isB]; simp; grind
              · by_cases t1 : s = 1
                · have hk : nmV o s = 7 := by rw [hn, hv]; simp [g8, callV, t1]
                  simp only [rkV, rjV, hc, hA, hx, kV, hk, kIf, mayB, zB, isB]; simp; grind
                · have hk : nmV o s = 0 := by rw [hn, hv]; simp [g8, callV, t0, t1]
                  simp only [rkV, rjV, hc, hA, hx, kV, hk, kIf, mayB, zB, isB]; simp; grind
            · have hk : nmV o s = 0 := by rw [hn, hv]; simp [g0, g9, g8]
              simp only [rkV, rjV, hc, hA, hx, kV, hk, kIf, mayB, zB, isB]; simp; grind
      · have hk : nmV o s = 0 := by rw [hn]; simp [noAskV, hx]
        simp only [rkV, rjV, hc, hA, hx, kV, hk, kIf, mayB, zB, isB]; simp; try grind
    · have hk : nmV o s = 5 := by simp [nmV, hc, hA]
      have g : ¬ o / 16 = 0 ∧ ¬ o / 16 = 9 ∧ ¬ o / 16 = 8 := by simp [askB] at hA; omega
      cases hx : xB o <;> simp only [rkV, rjV, hc, hA, hx, kV, hk, kIf, mayB, zB, isB, g] <;> simp <;> grind
  · cases hA : askB (o / 16)
    · have hk : nmV o s = 0 := by simp [nmV, hc, hA]
      simp only [rkV, rjV, hc, hA, kV, hk, kIf, mayB, zB, isB]; simp; try grind
    · have hk : nmV o s = 5 := by simp [nmV, hc, hA]
      cases hx : xB o <;> simp only [rkV, rjV, hc, hA, hx, kV, hk, kIf, mayB, zB, isB] <;> simp <;> grind
  · by_cases h : o / 16 ≤ 12 ∧ ¬ (o / 16 = 8 ∧ xB o = true)
    · have hn : nmV o s = 1 := by simp only [nmV, hc, reckV, h]; simp
      cases hx : xB o <;> simp only [rkV, hc, kV, hn, kIf, mayB, zB, isB, hx] <;> simp <;> grind
    · have hn : nmV o s = 0 := by simp only [nmV, hc, reckV, h]; simp
      cases hx : xB o <;> simp only [rkV, hc, kV, hn, kIf, mayB, zB, isB, hx] <;> simp <;> grind
end Go.Proofs.Ytdmdmbcapjmnlab
