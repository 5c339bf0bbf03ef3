/- Towards the statements of package tree (layer 16): a node levelled. -/
import Derived.Test.YthgpbbpmfpfjnaaTC
namespace Go.Proofs.Ythgpbbpmfpfjnaa.T
open Go.ChangeShapes Go.WideShapes Go.ChangeAt Go.RowKit
set_option linter.unusedVariables false
set_option linter.unusedSimpArgs false
set_option maxRecDepth 20000
/-- What a place has once it is levelled: the tree t of these rows, as deep as lo to hi. -/
def LvD [Inhabited FarT] (B : Nat) (top : Nat) (c : List Fra) (w w' : World) (rows : List (Nat × HKey)) (lo hi : Nat) : Prop :=
  ∃ (M' : MN) (t : Tr), Ms w' B M' ∧ Fd B w w' ∧ Path M' top t.root c ∧ Sub M' (some (hdF top c)) t ∧ t.rows = rows ∧ t.avl ∧ lo ≤ t.deep ∧ t.deep ≤ hi
section
variable [Inhabited FarT] (w : World) (B : Nat) (M : MN) (h : Ms w B M) (s : Bool) (top : Nat) (c : List Fra) (n u : Nat) (k uk : HKey) (y : Tr) (z d : Nat)
include h
theorem one_any (xs xm : Tr) (hP : Path M top (some n) c) (hn : M n = some (mkN s k (some (hdF top c)) (some u) y.root z d)) (hx : Sub M (some n) (mkT s u uk xs xm)) (hy : Sub M (some n) y) (hc : (top :: adF c).Nodup) (hT : (mkT s n k (mkT s u uk xs xm) y).adds.Nodup) (hd : ∀ a ∈ (mkT s n k (mkT s u uk xs xm) y).adds, a ∉ top :: adF c) (hz : (mkT s u uk xs xm).size + y.size ≤ 90000)
    (a1 : (mkT s u uk xs xm).avl) (a2 : y.avl) (a3 : (mkT s u uk xs xm).deep = y.deep + 2) (q : ¬ xs.deep < xm.deep) :
    Calls Try.prog 109 #[.pointer (some ⟨n, 0, none⟩), .int .i64 (sI s)] w fun e w' => e = .returned (.tuple #[]) ∧ LvD B top c w w' (mkT s n k (mkT s u uk xs xm) y).rows (y.deep + 2) (y.deep + 3) := by
  obtain ⟨f1, f2, f3, f4⟩ := lvT_facts s n k u uk xs xm y a1 a2 a3
  unfold lvT at f1 f2 f3 f4
  rw [if_neg q] at f1 f2 f3 f4
  rw [Sub_mkT] at hx
  rw [mkT_size] at hz
  refine (turn_path w B M h s top c n u k uk xs xm y z d _ _ hP hn hx.1 hx.2.1 hx.2.2 hy hc hT hd (by omega)).mono fun e w' ⟨e1, M', g1, g2, g3, g4⟩ => ⟨e1, M', _, g1, g2, ?_, g4, f1, f2, f4, f3⟩
  rw [mkT_root]
  exact g3
theorem two_any (m : Nat) (mk : HKey) (xs p q : Tr) (hP : Path M top (some n) c) (hn : M n = some (mkN s k (some (hdF top c)) (some u) y.root z d)) (hx : Sub M (some n) (mkT s u uk xs (mkT (!s) m mk p q))) (hy : Sub M (some n) y) (hc : (top :: adF c).Nodup) (hT : (mkT s n k (mkT s u uk xs (mkT (!s) m mk p q)) y).adds.Nodup) (hd : ∀ a ∈ (mkT s n k (mkT s u uk xs (mkT (!s) m mk p q)) y).adds, a ∉ top :: adF c) (hz : (mkT s u uk xs (mkT (!s) m mk p q)).size + y.size ≤ 90000)
    (a1 : (mkT s u uk xs (mkT (!s) m mk p q)).avl) (a2 : y.avl) (a3 : (mkT s u uk xs (mkT (!s) m mk p q)).deep = y.deep + 2) (hq : xs.deep < (mkT (!s) m mk p q).deep) :
    Calls Try.prog 109 #[.pointer (some ⟨u, 0, none⟩), .int .i64 (sI (!s))] w fun e w' => e = .returned (.tuple #[]) ∧ Calls Try.prog 109 #[.pointer (some ⟨n, 0, none⟩), .int .i64 (sI s)] w' fun e' w2 => e' = .returned (.tuple #[]) ∧ LvD B top c w w2 (mkT s n k (mkT s u uk xs (mkT (!s) m mk p q)) y).rows (y.deep + 2) (y.deep + 3) := by
  have hF := lvT_facts s n k u uk xs (mkT (!s) m mk p q) y a1 a2 a3
  have e0 : lvT s n k u uk xs (mkT (!s) m mk p q) y = mkT s m mk (mkT s u uk xs q) (mkT s n k p y) := by
    unfold lvT
    rw [if_pos hq]
    cases s <;> simp [mkT]
  rw [e0] at hF
  obtain ⟨f1, f2, f3, f4⟩ := hF
  have hP2 := hP.down hn hy
  rw [Sub_mkT] at hx
  obtain ⟨x1, x2, x3⟩ := hx
  rw [Sub_mkT] at x3
  rw [mkT_size, mkT_size] at hz
  have hin : ∀ a, a ∈ (mkT s n k (mkT s u uk xs (mkT (!s) m mk p q)) y).adds ↔ ((a ∈ xs.adds ∨ a = u ∨ a ∈ p.adds ∨ a = m ∨ a ∈ q.adds) ∨ a = n ∨ a ∈ y.adds) := fun a => by rw [mkT_adds, mkT_adds, mkT_adds]
  have hT' := hT
  rw [mkT_nodup, mkT_nodup, mkT_nodup] at hT'
  obtain ⟨⟨t1, ⟨r1, r2, r3, r4, r5⟩, t3, t4, t5⟩, t6, t7, t8, t9⟩ := hT'
  simp only [mkT_adds, not_or] at t4 t5 t7 t9
  have hrw : (mkT (!s) u uk (mkT (!s) m mk p q) xs) = mkT s u uk xs (mkT (!s) m mk p q) := mkT_other _ _ _ _ _
  have hc2 : (top :: adF (⟨s, n, k, y⟩ :: c)).Nodup := by
    have hn0 := hd n ((hin n).2 (by simp))
    simp only [List.mem_cons, not_or] at hn0
    simp only [adF, List.nodup_cons, List.mem_cons, List.mem_append, not_or, List.nodup_append] at hc ⊢
    refine ⟨⟨fun e => hn0.1 e.symm, fun q => hd top ((hin top).2 (by simp [q])) (by simp), hc.1⟩, ⟨t8, hn0.2⟩, t6, hc.2, fun a ha b hb e => ?_⟩
    subst e
    exact hd a ((hin a).2 (by simp [ha])) (by simp [hb])
  have key := turn_path w B M h (!s) top (⟨s, n, k, y⟩ :: c) u m uk mk p q xs _ _ _ _ hP2 (by rw [mkT_root] at x1; rw [mkN_other]; exact x1) x3.1 x3.2.1 x3.2.2 x2 hc2 (by rw [hrw, mkT_nodup, mkT_nodup]; exact ⟨t1, ⟨r1, r2, r3, r4, r5⟩, t3, by simp only [mkT_adds, not_or]; exact t4, by simp only [mkT_adds, not_or]; exact t5⟩) (fun a ha => by
    rw [hrw, mkT_adds, mkT_adds] at ha
    have h2 := hd a ((hin a).2 (.inl ha))
    simp only [adF, List.mem_cons, List.mem_append, not_or] at h2 ⊢
    refine ⟨h2.1, ?_, ?_, h2.2⟩
    · rintro rfl
      rcases ha with ha | ha | ha
      · exact t7.1 ha
      · exact t7.2.1 ha
      · rcases ha with ha | ha | ha
        · exact t7.2.2.1 ha
        · exact t7.2.2.2.1 ha
        · exact t7.2.2.2.2 ha
    · exact fun hay => t9 a ha hay) (by omega)
  refine key.mono fun e w' ⟨e1, M', g1, g2, g3, g4⟩ => ⟨e1, ?_⟩
  obtain ⟨⟨z3, d3, g5⟩, g6, g7⟩ := g3
  simp only [hdF] at g4 g5
  rw [mkT_other, mkT_other] at g4
  have g4' := Sub_mkT.1 g4
  have hT3 : (mkT s n k (mkT s m mk (mkT s u uk xs q) p) y).adds.Nodup := by
    have e5 : (mkT s n k (mkT s m mk (mkT s u uk xs q) p) y).rows = (mkT s n k (mkT s u uk xs (mkT (!s) m mk p q)) y).rows := by cases s <;> simp [mkT, Tr.rows]
    unfold Tr.adds at hT ⊢
    rw [e5]
    exact hT
  have e6 : ∀ a, a ∈ (mkT s n k (mkT s m mk (mkT s u uk xs q) p) y).adds ↔ a ∈ (mkT s n k (mkT s u uk xs (mkT (!s) m mk p q)) y).adds := fun a => by
    have e5 : (mkT s n k (mkT s m mk (mkT s u uk xs q) p) y).rows = (mkT s n k (mkT s u uk xs (mkT (!s) m mk p q)) y).rows := by cases s <;> simp [mkT, Tr.rows]
    unfold Tr.adds
    rw [e5]
  refine (turn_path w' B M' g1 s top c n m k mk (mkT s u uk xs q) p y z3 d3 _ _ g7 g5 g4'.1 g4'.2.1 g4'.2.2 g6 hc hT3 (fun a ha => hd a ((e6 a).1 ha)) (by rw [mkT_size]; omega)).mono fun e' w2 ⟨e2, M2, k1, k2, k3, k4⟩ => ⟨e2, M2, _, k1, g2.trans k2, ?_, k4, f1, f2, f4, f3⟩
  rw [mkT_root]
  exact k3
end
end Go.Proofs.Ythgpbbpmfpfjnaa.T
