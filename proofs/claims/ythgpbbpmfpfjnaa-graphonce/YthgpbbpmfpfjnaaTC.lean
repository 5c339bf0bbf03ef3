/- Towards the statements of package tree (layer 16): a turn at a place; a node levelled. -/
import Derived.Test.YthgpbbpmfpfjnaaTB
import Derived.BigQuiet
namespace Go.Proofs.Ythgpbbpmfpfjnaa.T
open Go.ChangeShapes Go.WideShapes Go.ChangeAt Go.RowKit
set_option linter.unusedVariables false
set_option linter.unusedSimpArgs false
set_option maxRecDepth 20000
theorem turn_path [Inhabited FarT] (w : World) (B : Nat) (M : MN) (h : Ms w B M) (s : Bool) (top : Nat) (c : List Fra) (n u : Nat) (k uk : HKey) (xs xm y : Tr) (z d z' d' : Nat)
    (hP : Path M top (some n) c) (hn : M n = some (mkN s k (some (hdF top c)) (some u) y.root z d)) (hu : M u = some (mkN s uk (some n) xs.root xm.root z' d'))
    (h1 : Sub M (some u) xs) (h2 : Sub M (some u) xm) (h3 : Sub M (some n) y) (hc : (top :: adF c).Nodup) (hT : (mkT s n k (mkT s u uk xs xm) y).adds.Nodup) (hd : ∀ a ∈ (mkT s n k (mkT s u uk xs xm) y).adds, a ∉ top :: adF c) (hz : xs.size + xm.size + y.size ≤ 90000) :
    Calls Try.prog 109 #[.pointer (some ⟨n, 0, none⟩), .int .i64 (sI s)] w fun e w' => e = .returned (.tuple #[]) ∧ ∃ M', Ms w' B M' ∧ Fd B w w' ∧ Path M' top (some u) c ∧ Sub M' (some (hdF top c)) (mkT s u uk xs (mkT s n k xm y)) := by
  have hin : ∀ a, a ∈ (mkT s n k (mkT s u uk xs xm) y).adds ↔ ((a ∈ xs.adds ∨ a = u ∨ a ∈ xm.adds) ∨ a = n ∨ a ∈ y.adds) := fun a => by rw [mkT_adds, mkT_adds]
  have hn' : n ∉ top :: adF c := hd n ((hin n).2 (by simp))
  obtain ⟨O, ho, hk, hs, hr, hP'⟩ := hP.over hc hn'
  have hom := hdF_mem top c
  have hno : ∀ a ∈ (mkT s n k (mkT s u uk xs xm) y).adds, a ≠ hdF top c := fun a ha e => hd a ha (e ▸ hom)
  rw [mkT_nodup, mkT_nodup] at hT
  obtain ⟨⟨t1, t2, t3, t4, t5⟩, t6, t7, t8, t9⟩ := hT
  simp only [mkT_adds, not_or] at t7 t9
  refine (turn_any w B M h s (sdF c) (hdF top c) n u O k uk xs xm y z d z' d' hn ho hu hk hs (fun a e => ?_) h1 h2 h3 (hno n ((hin n).2 (by simp))).symm (hno u ((hin u).2 (by simp))).symm t7.2.1 ⟨fun q => hno _ ((hin _).2 (by simp [q])) rfl, fun q => hno _ ((hin _).2 (by simp [q])) rfl, fun q => hno _ ((hin _).2 (by simp [q])) rfl⟩ ⟨t7.1, t7.2.2, t8⟩ ⟨t3, t4, t9 u (.inr (.inl rfl))⟩ (fun a ha => ⟨fun q => t5 a q ha, t9 a (.inr (.inr ha))⟩) t2 hz).mono fun e w' ⟨e1, M', hM', hF, g1, g2, g3⟩ => ⟨e1, M', hM', hF, hP' M' (some u) g1 fun a ha hne => ?_, g2⟩
  · rcases hr a e with rfl | q
    · exact ⟨_, hn⟩
    · exact q
  · have key : ∀ b, b ∈ (mkT s n k (mkT s u uk xs xm) y).adds → a ≠ b := fun b hb e => hd b hb (e ▸ ha)
    exact g3 a hne (key n ((hin n).2 (by simp))) (key u ((hin u).2 (by simp))) (fun q => key a ((hin a).2 (by simp [q])) rfl)
theorem mkN_other (s : Bool) (k : HKey) (o x y : Option Nat) (z d : Nat) : mkN (!s) k o x y z d = mkN s k o y x z d := by cases s <;> rfl
theorem mkT_other (s : Bool) (a : Nat) (k : HKey) (x y : Tr) : mkT (!s) a k x y = mkT s a k y x := by cases s <;> rfl
/-- A place one farther down. -/
theorem Path.down {M : MN} {top : Nat} {c : List Fra} {s : Bool} {n : Nat} {k : HKey} {p : Option Nat} {y : Tr} {z d : Nat} (hP : Path M top (some n) c) (hn : M n = some (mkN s k (some (hdF top c)) p y.root z d)) (hy : Sub M (some n) y) : Path M top p (⟨s, n, k, y⟩ :: c) :=
  ⟨⟨z, d, hn⟩, hy, hP⟩
/-- What level makes of a node whose one side is too deep. -/
def lvT (s : Bool) (n : Nat) (k : HKey) (u : Nat) (uk : HKey) (xs xm y : Tr) : Tr :=
  if xs.deep < xm.deep then (match xm with
    | .nil => .nil
    | .nd m mk a b => if s then mkT s m mk (mkT s u uk xs b) (mkT s n k a y) else mkT s m mk (mkT s u uk xs a) (mkT s n k b y))
  else mkT s u uk xs (mkT s n k xm y)
theorem lvT_facts (s : Bool) (n : Nat) (k : HKey) (u : Nat) (uk : HKey) (xs xm y : Tr) (h : (mkT s u uk xs xm).avl) (hy : y.avl) (hd : (mkT s u uk xs xm).deep = y.deep + 2) :
    (lvT s n k u uk xs xm y).rows = (mkT s n k (mkT s u uk xs xm) y).rows ∧ (lvT s n k u uk xs xm y).avl ∧ (lvT s n k u uk xs xm y).deep ≤ y.deep + 3 ∧ y.deep + 2 ≤ (lvT s n k u uk xs xm y).deep := by
  rw [mkT_avl] at h
  rw [mkT_deep] at hd
  obtain ⟨h1, h2, h3, h4⟩ := h
  unfold lvT
  by_cases q : xs.deep < xm.deep
  · rw [if_pos q]
    cases xm with
    | nil => simp [Tr.deep] at q
    | nd m mk a b =>
      simp only [Tr.avl] at h2
      simp only [Tr.deep] at q h3 h4 hd
      obtain ⟨a1, a2, a3, a4⟩ := h2
      cases s
      · refine ⟨by simp [mkT, Tr.rows], ?_, ?_, ?_⟩
        · simp only [Bool.false_eq_true, if_false, mkT_avl, mkT_deep]
          exact ⟨⟨h1, a1, by omega, by omega⟩, ⟨a2, hy, by omega, by omega⟩, by omega, by omega⟩
        · simp only [Bool.false_eq_true, if_false, mkT_deep]; omega
        · simp only [Bool.false_eq_true, if_false, mkT_deep]; omega
      · refine ⟨by simp [mkT, Tr.rows], ?_, ?_, ?_⟩
        · simp only [if_true, mkT_avl, mkT_deep]
          exact ⟨⟨h1, a2, by omega, by omega⟩, ⟨a1, hy, by omega, by omega⟩, by omega, by omega⟩
        · simp only [if_true, mkT_deep]; omega
        · simp only [if_true, mkT_deep]; omega
  · rw [if_neg q]
    refine ⟨turn_rows s u uk n k xs xm y, ?_, ?_, ?_⟩
    · rw [mkT_avl, mkT_avl, mkT_deep]
      exact ⟨h1, ⟨h2, hy, by omega, by omega⟩, by omega, by omega⟩
    · rw [mkT_deep, mkT_deep]; omega
    · rw [mkT_deep, mkT_deep]; omega
end Go.Proofs.Ythgpbbpmfpfjnaa.T
