/- Towards ListMirror: a row turned about; two lists beside one another. -/
import Derived.Test.YtefhcdnilbojkaaLT
namespace Go.Proofs.Ytefhcdnilbojkaa
open Go.ChangeShapes Go.WideShapes Go.ChangeAt Go.RowKit
set_option linter.unusedVariables false
set_option linter.unusedSimpArgs false
set_option maxRecDepth 20000
theorem erase_rev {K : List HKey} (h : K.Nodup) (k : HKey) : K.reverse.erase k = (K.erase k).reverse := by
  rw [((List.reverse_perm K).nodup_iff.2 h).erase_eq_filter, h.erase_eq_filter, List.filter_reverse]
theorem push_rev (K : List HKey) (k : HKey) (q : Bool) : pushM K.reverse k (!q) = (pushM K k q).reverse := by
  unfold pushM
  by_cases h : k ∈ K
  · simp [h]
  · cases q <;> simp [h]
theorem end_rev (K : List HKey) (q : Bool) : endM K.reverse (!q) = endM K q := by
  cases q <;> simp [endM]
theorem pop_rev {K : List HKey} (h : K.Nodup) (q : Bool) : popM K.reverse (!q) = (popM K q).reverse := by
  unfold popM
  rw [end_rev]
  cases endM K q with
  | none => rfl
  | some k => exact erase_rev h k
theorem push_len (K : List HKey) (k : HKey) (q : Bool) : (pushM K k q).length ≤ K.length + 1 := by
  unfold pushM
  split
  · omega
  · split <;> simp
theorem erase_len (K : List HKey) (k : HKey) : (K.erase k).length ≤ K.length := (List.erase_sublist).length_le
theorem pop_len (K : List HKey) (q : Bool) : (popM K q).length ≤ K.length := by
  unfold popM
  split
  · exact erase_len _ _
  · omega
def Dj (S T : List Nat) : Prop := ∀ x ∈ S, x ∉ T
theorem Dj.symm {S T : List Nat} (h : Dj S T) : Dj T S := fun x hx hy => h x hy hx
theorem Dj.left {B : Nat} {S S' T : List Nat} {w w' : World} (h : Dj S T) (hF : FL B S S' w w') (ht : ∀ x ∈ T, x < w.heap.size) : Dj S' T := fun x hx hy => by
  rcases hF.new x hx with r | r
  · exact h x r hy
  · have := ht x hy; omega
/-- Two lists beside one another, the one the other turned about. -/
structure Mr (w : World) (B a b : Nat) (K : List HKey) (Sa Sb : List Nat) : Prop where
  la : Li w B a K Sa
  lb : Li w B b K.reverse Sb
  dj : Dj Sa Sb
theorem Mr.bel {w w' : World} {B a b : Nat} {K : List HKey} {Sa Sb : List Nat} (h : Mr w B a b K Sa Sb) (hb : Below w.heap.size w w') : Mr w' B a b K Sa Sb := ⟨h.la.bel hb, h.lb.bel hb, h.dj⟩
theorem Mr.two {w w1 w2 : World} {B a b : Nat} {K K' : List HKey} {Sa Sb Sa' Sb' : List Nat} (h : Mr w B a b K Sa Sb) (ha : Li w1 B a K' Sa') (fa : FL B Sa Sa' w w1) (hb : Li w2 B b K'.reverse Sb') (fb : FL B Sb Sb' w1 w2) : Mr w2 B a b K' Sa' Sb' := by
  have hd := h.dj.left fa (fun x hx => (h.lb.lt x hx).2)
  exact ⟨ha.other fb hd, hb, (hd.symm.left fb (fun x hx => (ha.lt x hx).2)).symm⟩
theorem Li.nob {w : World} {B b : Nat} {K : List HKey} {S : List Nat} (h : Li w B b K S) : b ∈ S := by
  obtain ⟨m, e, nx, pv, ky, N, rfl, rfl, hL⟩ := h
  simp
theorem rev_at {K : List HKey} {k : Nat} (h : k < K.length) : K.reverse[K.length - 1 - k]? = K[k]? := by
  rw [List.getElem?_reverse (by omega)]
  congr 1
  omega
end Go.Proofs.Ytefhcdnilbojkaa
