/- Rings of links as functions (no program in it). -/
import Derived.Test.YthgpbbpmfpfjnaaMI
namespace Go.Proofs.Ythgpbbpmfpfjnaa
set_option linter.unusedVariables false
set_option linter.unusedSimpArgs false
def upd {β : Type} (f : Nat → β) (k : Nat) (x : β) : Nat → β := fun s => if s = k then x else f s
theorem upd_self {β : Type} (f : Nat → β) (k : Nat) (x : β) : upd f k x k = x := by simp [upd]
theorem upd_ne {β : Type} (f : Nat → β) {k s : Nat} (x : β) (h : s ≠ k) : upd f k x s = f s := by simp [upd, h]
/-- From a over the links of L to z: nx leads on, pv leads back. -/
def Seg (nx pv : Nat → Nat) : Nat → List Nat → Nat → Prop
  | a, [], z => nx a = z ∧ pv z = a
  | a, x :: l, z => nx a = x ∧ pv x = a ∧ Seg nx pv x l z
theorem Seg.app {nx pv : Nat → Nat} : ∀ {a : Nat} {L M : List Nat} {x z : Nat}, Seg nx pv a (L ++ x :: M) z ↔ Seg nx pv a L x ∧ Seg nx pv x M z
  | a, [], M, x, z => by simp [Seg, and_assoc]
  | a, y :: L, M, x, z => by simp [Seg, Seg.app (L := L), and_assoc]
theorem Seg.frame {nx pv nx' pv' : Nat → Nat} : ∀ {a : Nat} {L : List Nat} {z : Nat}, Seg nx pv a L z → (∀ x ∈ a :: L, nx' x = nx x) → (∀ x ∈ L ++ [z], pv' x = pv x) → Seg nx' pv' a L z
  | a, [], z, h, h1, h2 => ⟨(h1 a (.head _)).trans h.1, (h2 z (by simp)).trans h.2⟩
  | a, x :: l, z, h, h1, h2 => ⟨(h1 a (.head _)).trans h.1, (h2 x (by simp)).trans h.2.1, h.2.2.frame (fun y hy => h1 y (.tail _ hy)) (fun y hy => h2 y (by simp at hy ⊢; right; exact hy))⟩
theorem Seg.rev {nx pv : Nat → Nat} : ∀ {a : Nat} {L : List Nat} {z : Nat}, Seg nx pv a L z → Seg pv nx z L.reverse a
  | a, [], z, h => ⟨h.2, h.1⟩
  | a, x :: l, z, h => by
    rw [List.reverse_cons]
    exact Seg.app.2 ⟨h.2.2.rev, h.2.1, h.1⟩
/-- One more, behind the first. -/
theorem Seg.first {nx pv nx' pv' : Nat → Nat} {e g y : Nat} {L : List Nat} (h : Seg nx pv e L e) (hnd : (e :: L).Nodup) (hg : g ∉ e :: L) (hy : nx e = y)
    (h1 : nx' e = g) (h2 : nx' g = y) (h3 : pv' g = e) (h4 : pv' y = g) (h5 : ∀ x, x ≠ e → x ≠ g → nx' x = nx x) (h6 : ∀ x, x ≠ y → x ≠ g → pv' x = pv x) : Seg nx' pv' e (g :: L) e := by
  refine ⟨h1, h3, ?_⟩
  cases L with
  | nil => exact ⟨h2.trans (hy.symm.trans h.1), by rw [← h4]; congr 1; exact h.1.symm.trans hy⟩
  | cons x l =>
    obtain rfl : x = y := h.1.symm.trans hy
    simp only [List.nodup_cons, List.mem_cons, not_or] at hnd hg
    refine ⟨h2, h4, h.2.2.frame (fun z hz => ?_) (fun z hz => ?_)⟩
    · simp only [List.mem_cons] at hz
      refine h5 z ?_ ?_
      · rintro rfl; rcases hz with e1 | hz
        · exact hnd.1.1 e1
        · exact hnd.1.2 hz
      · rintro rfl; rcases hz with e1 | hz
        · exact hg.2.1 e1
        · exact hg.2.2 hz
    · simp only [List.mem_append, List.mem_singleton] at hz
      refine h6 z ?_ ?_
      · rintro rfl; rcases hz with hz | e1
        · exact hnd.2.1 hz
        · exact hnd.1.1 e1.symm
      · rintro rfl; rcases hz with hz | e1
        · exact hg.2.2 hz
        · exact hg.1 e1
/-- One more, ahead of the first: the last. -/
theorem Seg.last {nx pv nx' pv' : Nat → Nat} {e g y : Nat} {L : List Nat} (h : Seg nx pv e L e) (hnd : (e :: L).Nodup) (hg : g ∉ e :: L) (hy : pv e = y)
    (h1 : pv' e = g) (h2 : pv' g = y) (h3 : nx' g = e) (h4 : nx' y = g) (h5 : ∀ x, x ≠ e → x ≠ g → pv' x = pv x) (h6 : ∀ x, x ≠ y → x ≠ g → nx' x = nx x) : Seg nx' pv' e (L ++ [g]) e := by
  have r := h.rev.first (nx' := pv') (pv' := nx') (g := g) (y := y) ((List.Perm.nodup_iff ((List.reverse_perm L).cons e)).2 hnd) (by simpa using hg) hy h1 h2 h3 h4 h5 h6
  have := r.rev
  simpa using this
theorem Seg.pv_mem {nx pv : Nat → Nat} : ∀ {a : Nat} {L : List Nat} {z : Nat}, Seg nx pv a L z → pv z ∈ a :: L
  | a, [], z, h => by rw [h.2]; simp
  | a, x :: l, z, h => .tail _ h.2.2.pv_mem
theorem Seg.nx_mem {nx pv : Nat → Nat} {a : Nat} {L : List Nat} {z : Nat} (h : Seg nx pv a L z) : nx a ∈ L ++ [z] := by
  cases L with
  | nil => simp [h.1]
  | cons x l => rw [h.1]; simp
/-- One less. -/
theorem Seg.cut {nx pv nx' pv' : Nat → Nat} {k : Nat} : ∀ {a : Nat} {L M : List Nat} {z : Nat}, Seg nx pv a L k → Seg nx pv k M z → (a :: L ++ k :: M).Nodup → z ∉ L ++ k :: M →
    nx' (pv k) = nx k → pv' (nx k) = pv k → (∀ x, x ≠ pv k → nx' x = nx x) → (∀ x, x ≠ nx k → pv' x = pv x) → Seg nx' pv' a (L ++ M) z
  | a, [], [], z, h, hM, hn, hz, h1, h2, h3, h4 => by
    obtain ⟨ha, hk⟩ := h
    rw [hk] at h1 h2
    obtain ⟨e1, e2⟩ := hM
    rw [e1] at h1 h2
    exact ⟨h1, h2⟩
  | a, [], x :: l, z, h, hM, hn, hz, h1, h2, h3, h4 => by
    obtain ⟨ha, hk⟩ := h
    obtain ⟨e1, e2, e3⟩ := hM
    rw [hk] at h1 h2 h3
    rw [e1] at h1 h2 h4
    simp only [List.cons_append, List.nil_append, List.nodup_cons, List.mem_cons, not_or] at hn hz
    refine ⟨h1, h2, e3.frame (fun y hy => h3 y ?_) (fun y hy => h4 y ?_)⟩
    · rintro rfl
      rcases List.mem_cons.1 hy with e | e
      · exact hn.1.2.1 e
      · exact hn.1.2.2 e
    · rintro rfl
      rcases List.mem_append.1 hy with e | e
      · exact hn.2.2.1 e
      · simp at e; exact hz.2.1 e.symm
  | a, y :: L, M, z, h, hM, hn, hz, h1, h2, h3, h4 => by
    obtain ⟨ha, hy, h⟩ := h
    have hp := h.pv_mem
    have hq := hM.nx_mem
    have hn' := hn
    simp only [List.cons_append, List.nodup_cons, List.mem_cons, List.mem_append, not_or] at hn hz
    refine ⟨(h3 a ?_).trans ha, (h4 y ?_).trans hy, h.cut hM ?_ ?_ h1 h2 h3 h4⟩
    · intro e
      rw [← e] at hp
      rcases List.mem_cons.1 hp with e1 | e1
      · exact hn.1.1 e1
      · exact hn.1.2.1 e1
    · intro e
      rw [← e] at hq
      rcases List.mem_append.1 hq with e1 | e1
      · exact hn.2.1.2.2 e1
      · simp at e1; exact hz.1 e1.symm
    · exact (List.nodup_cons.1 hn').2
    · simp only [List.mem_append, List.mem_cons, not_or]
      exact hz.2
theorem Seg.at {nx pv : Nat → Nat} : ∀ {a : Nat} {L : List Nat} {z : Nat}, Seg nx pv a L z → ∀ (j x : Nat), (a :: L)[j]? = some x → (L ++ [z])[j]? = some (nx x)
  | a, [], z, h, 0, x, e => by simp at e; subst e; simp [h.1]
  | a, [], z, h, j + 1, x, e => by simp at e
  | a, y :: l, z, h, 0, x, e => by simp at e; subst e; simp [h.1]
  | a, y :: l, z, h, j + 1, x, e => by have q := h.2.2.at j x (by rw [List.getElem?_cons_succ] at e; exact e); rw [List.cons_append, List.getElem?_cons_succ]; exact q
theorem Seg.back {nx pv : Nat → Nat} : ∀ {a : Nat} {L : List Nat} {z : Nat}, Seg nx pv a L z → ∀ (j y : Nat), (L ++ [z])[j]? = some y → (a :: L)[j]? = some (pv y)
  | a, [], z, h, 0, x, e => by simp at e; subst e; simp [h.2]
  | a, [], z, h, j + 1, x, e => by simp at e
  | a, y :: l, z, h, 0, x, e => by simp at e; subst e; simp [h.2.1]
  | a, y :: l, z, h, j + 1, x, e => by have q := h.2.2.back j x (by rw [List.cons_append, List.getElem?_cons_succ] at e; exact e); rw [List.getElem?_cons_succ]; exact q
end Go.Proofs.Ythgpbbpmfpfjnaa
