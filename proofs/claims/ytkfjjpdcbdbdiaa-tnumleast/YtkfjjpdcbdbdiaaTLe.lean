/- Towards the statements of package tnum (layer 3): five rows that grow, side by side: of sums, differences, and bits taken together. -/
import Derived.Test.YtkfjjpdcbdbdiaaTAll
import Derived.Test.YtkfjjpdcbdbdiaaTWorks
import Derived.Deep.DeepCutAuto
import Derived.Deep.RegionHeld3
import Derived.Deep.RegionLaw
namespace Go.Proofs.Ytkfjjpdcbdbdiaa
open Go.ChangeShapes Go.WideShapes Go.ChangeAt Go.RowKit
set_option linter.unusedVariables false
set_option maxRecDepth 20000

/-- What is done with two numbers, in the statement's order. -/
def opN : Nat → BitVec 64 → BitVec 64 → BitVec 64
  | 0 => fun x y => x + y
  | 1 => fun x y => x - y
  | 2 => fun x y => x &&& y
  | 3 => fun x y => x ||| y
  | _ => fun x y => x ^^^ y
/-- Where all stands: block B has five slices, each of which owns its numbers, no two in one block; the numbers of both sets, and the sets, are as they were. -/
structure St (w wx : World) (B base gp gq a b : Nat) (P Q : List (BitVec 64)) (av am bv bm : BitVec 64) (LL : Nat → List (BitVec 64)) (s : Nat → Value) : Prop where
  blk : wx.heap[B]? = some (.cells #[s 0, s 1, s 2, s 3, s 4] 29)
  own : ∀ j, j < 5 → Owns wx base (s j) (LL j)
  far : ∀ i j, i < 5 → j < 5 → i ≠ j → (s i).ownBlock = none ∨ (s i).ownBlock ≠ (s j).ownBlock
  rp : RowB wx gp P
  rq : RowB wx gq Q
  ta : At wx a av am
  tb : At wx b bv bm
  gr : Gr w wx
  sz : base ≤ wx.heap.size
theorem set_five (s : Nat → Value) (v : Value) : ∀ j, j < 5 → (#[s 0, s 1, s 2, s 3, s 4] : Array Value).setIfInBounds j v = #[if 0 = j then v else s 0, if 1 = j then v else s 1, if 2 = j then v else s 2, if 3 = j then v else s 3, if 4 = j then v else s 4]
  | 0, _ => rfl
  | 1, _ => rfl
  | 2, _ => rfl
  | 3, _ => rfl
  | 4, _ => rfl
  | _ + 5, h => absurd h (by omega)
theorem RowB.far {w w' : World} {b : Nat} {L : List (BitVec 64)} (h : RowB w b L) (e : w'.heap[b]? = w.heap[b]?) : RowB w' b L := fun i v hv => (World.cell?_of_block (w := w) (w' := w') (a := ⟨b, i, none⟩) e).trans (h i v hv)
theorem Owns.far {w w' : World} {base : Nat} {v : Value} {L : List (BitVec 64)} (h : Owns w base v L) (e : ∀ k, base ≤ k → k < w.heap.size → v.ownBlock = some k → w'.heap[k]? = w.heap[k]?) : Owns w' base v L := by
  refine ⟨h.1, ?_⟩
  rcases h.2 with hn | ⟨g, cap, cur, rfl, hb, hg, r⟩
  · exact Or.inl hn
  · refine Or.inr ⟨g, cap, cur, rfl, hb, ?_, r⟩
    rw [e g hb (Array.getElem?_eq_some_iff.1 hg).1 rfl]
    exact hg
/-- One row has grown by a number. -/
theorem St.step {w wx w1 w2 : World} {B base gp gq a b : Nat} {P Q : List (BitVec 64)} {av am bv bm : BitVec 64} {LL : Nat → List (BitVec 64)} {s : Nat → Value} (h : St w wx B base gp gq a b P Q av am bv bm LL s)
    (hwB : w.heap.size ≤ B) (hB : B < base) (hgp : gp < base) (hgq : gq < base) (ha : a < base) (hb : b < base) (np : gp ≠ B) (nq : gq ≠ B) (na : a ≠ B) (nb : b ≠ B)
    (j : Nat) (hj : j < 5) (z : BitVec 64) (h1 : ∀ k, k < wx.heap.size → w1.heap[k]? = wx.heap[k]?) (hs1 : wx.heap.size < w1.heap.size)
    (g cap : Nat) (ho : w2.ownsRow base 22 1 (.slice (some ⟨g, 0, none⟩) ((LL j).length + 1) cap) ((LL j).length + 1) ((LL j).map (fun x => Value.int .u64 (iv x)) ++ [.int .u64 (iv z)]))
    (hg : w1.grownBy w2 (s j).ownBlock) (hat : (s j).ownBlock = some g ∨ g = w1.heap.size) (hG : Gr w w2) :
    St w (w2.setCell ⟨B, j, none⟩ (.slice (some ⟨g, 0, none⟩) ((LL j).length + 1) cap)) B base gp gq a b P Q av am bv bm (fun i => if i = j then LL j ++ [z] else LL i) (fun i => if i = j then .slice (some ⟨g, 0, none⟩) ((LL j).length + 1) cap else s i) := by
  have hrow : ∀ k, (s j).ownBlock = some k → base ≤ k ∧ k < wx.heap.size := fun k hk => (h.own j hj).lt k hk
  have hlow : ∀ k, k < base → w2.heap[k]? = wx.heap[k]? := fun k hk => by
    have := h.sz
    refine (hg.block k (by omega) (fun e => ?_)).trans (h1 k (by omega))
    have := hrow k e.symm
    omega
  have hset : ∀ k, k ≠ B → (w2.setCell ⟨B, j, none⟩ (.slice (some ⟨g, 0, none⟩) ((LL j).length + 1) cap)).heap[k]? = w2.heap[k]? := fun k hk => Below.heap_setCell w2 _ _ k hk
  have hblk : w2.heap[B]? = some (.cells #[s 0, s 1, s 2, s 3, s 4] 29) := (hlow B hB).trans h.blk
  have hsize : base ≤ w2.heap.size := by have := h.sz; have := hg.size; omega
  refine ⟨?_, ?_, ?_, ?_, ?_, ?_, ?_, ?_, ?_⟩
  · rw [setCell_eq_setRow w2 B j _ 29 (0, 0) _ hblk, set_five s _ j hj]
    exact setRow_heap w2 B _ _ 29 (0, 0) hblk
  · intro i hi
    by_cases e : i = j
    · simp only [if_pos e]
      have o2 : Owns w2 base (.slice (some ⟨g, 0, none⟩) ((LL j).length + 1) cap) (LL j ++ [z]) := by
        unfold Owns
        simpa using ho
      exact o2.far fun k hk _ _ => hset k (by omega)
    · simp only [if_neg e]
      refine (h.own i hi).far fun k hk hlt hown => (hset k (by omega)).trans ((hg.block k (by omega) (fun q => ?_)).trans (h1 k hlt))
      rcases h.far i j hi hj e with n | n
      · rw [n] at hown; cases hown
      · exact n (hown.trans q)
  · intro i k hi hk hne
    have hf : ∀ i, i < 5 → i ≠ j → (s i).ownBlock ≠ some g := fun i hi hij q => by
      rcases hat with hat | hat
      · rcases h.far i j hi hj hij with n | n
        · rw [n] at q; cases q
        · exact n (q.trans hat.symm)
      · have := (h.own i hi).lt g q
        omega
    by_cases e : i = j
    · by_cases e' : k = j
      · omega
      · simp only [if_pos e, if_neg e']
        exact Or.inr fun q => hf k hk e' q.symm
    · by_cases e' : k = j
      · simp only [if_neg e, if_pos e']
        exact Or.inr (hf i hi e)
      · simp only [if_neg e, if_neg e']
        exact h.far i k hi hk hne
  · exact h.rp.far ((hset gp np).trans (hlow gp hgp))
  · exact h.rq.far ((hset gq nq).trans (hlow gq hgq))
  · exact ((hset a na).trans (hlow a ha)).trans h.ta
  · exact ((hset b nb).trans (hlow b hb)).trans h.tb
  · exact hG.set hwB _
  · rw [show (w2.setCell ⟨B, j, none⟩ (.slice (some ⟨g, 0, none⟩) ((LL j).length + 1) cap)).heap.size = w2.heap.size from by simp [World.setCell]]
    exact hsize
theorem St.cong {w wx : World} {B base gp gq a b : Nat} {P Q : List (BitVec 64)} {av am bv bm : BitVec 64} {LL LM : Nat → List (BitVec 64)} {s : Nat → Value} (h : St w wx B base gp gq a b P Q av am bv bm LL s) (e : ∀ j, j < 5 → LL j = LM j) : St w wx B base gp gq a b P Q av am bv bm LM s :=
  ⟨h.blk, fun j hj => e j hj ▸ h.own j hj, h.far, h.rp, h.rq, h.ta, h.tb, h.gr, h.sz⟩
theorem St.cell {w wx : World} {B base gp gq a b : Nat} {P Q : List (BitVec 64)} {av am bv bm : BitVec 64} {LL : Nat → List (BitVec 64)} {s : Nat → Value} (h : St w wx B base gp gq a b P Q av am bv bm LL s) : ∀ j, j < 5 → wx.cell? ⟨B, j, none⟩ = some (s j) ∧ wx.frozen? ⟨B, j, none⟩ = false
  | 0, _ => ⟨by simp [World.cell?, h.blk], by simp [World.frozen?, h.blk]⟩
  | 1, _ => ⟨by simp [World.cell?, h.blk], by simp [World.frozen?, h.blk]⟩
  | 2, _ => ⟨by simp [World.cell?, h.blk], by simp [World.frozen?, h.blk]⟩
  | 3, _ => ⟨by simp [World.cell?, h.blk], by simp [World.frozen?, h.blk]⟩
  | 4, _ => ⟨by simp [World.cell?, h.blk], by simp [World.frozen?, h.blk]⟩
  | _ + 5, h => absurd h (by omega)
/-- The rows as they stand when the first r of them have grown in this round. -/
def rowsN (pre : Nat → List (BitVec 64)) (x : BitVec 64) (Q : List (BitVec 64)) (c r j : Nat) : List (BitVec 64) := pre j ++ (Q.take (if j < r then c + 1 else c)).map (opN j x)
theorem rows_step {pre : Nat → List (BitVec 64)} {x y : BitVec 64} {Q : List (BitVec 64)} {c : Nat} (hy : Q[c]? = some y) (r j : Nat) : (if j = r then rowsN pre x Q c r r ++ [opN r x y] else rowsN pre x Q c r j) = rowsN pre x Q c (r + 1) j := by
  by_cases e : j = r
  · subst e
    rw [if_pos rfl]
    unfold rowsN
    rw [if_neg (by omega), if_pos (by omega), take_next hy]
    simp
  · rw [if_neg e]
    unfold rowsN
    by_cases h : j < r
    · rw [if_pos h, if_pos (by omega)]
    · rw [if_neg h, if_neg (by omega)]
theorem rows_zero (pre : Nat → List (BitVec 64)) (x : BitVec 64) (Q : List (BitVec 64)) (c j : Nat) : pre j ++ (Q.take c).map (opN j x) = rowsN pre x Q c 0 j := by
  unfold rowsN
  rw [if_neg (by omega)]
theorem rows_five (pre : Nat → List (BitVec 64)) (x : BitVec 64) (Q : List (BitVec 64)) (c j : Nat) (h : j < 5) : rowsN pre x Q c 5 j = pre j ++ (Q.take (c + 1)).map (opN j x) := by
  unfold rowsN
  rw [if_pos h]
theorem pairs_take (op : BitVec 64 → BitVec 64 → BitVec 64) {P : List (BitVec 64)} {k : Nat} {x : BitVec 64} (h : P[k]? = some x) (Q : List (BitVec 64)) : Tn.pairs op (P.take (k + 1)) Q = Tn.pairs op (P.take k) Q ++ Q.map (op x) := by
  rw [take_next h]
  unfold Tn.pairs
  simp [List.flatMap_append]
theorem rows_len {P Q : List (BitVec 64)} (hp : P.length ≤ 16) (hq : Q.length ≤ 16) (x : BitVec 64) (k c r j : Nat) : (rowsN (fun j => Tn.pairs (opN j) (P.take k) Q) x Q c r j).length ≤ 300 := by
  unfold rowsN
  rw [List.length_append, pairs_len, List.length_map]
  have h1 : (P.take k).length * Q.length ≤ 16 * 16 := Nat.mul_le_mul (by rw [List.length_take]; omega) hq
  have h2 : (Q.take (if j < r then c + 1 else c)).length ≤ Q.length := by rw [List.length_take]; omega
  omega
theorem Owns.form {w : World} {base : Nat} {v : Value} {x : BitVec 64} {L R : List (BitVec 64)} (h : Owns w base v L) (e : L = x :: R) : ∃ g cap, v = .slice (some ⟨g, 0, none⟩) (R.length + 1) cap ∧ RowB w g (x :: R) := by
  subst e
  obtain ⟨g, cap, rfl, _, _⟩ := World.ownsRow.form h (by simp)
  exact ⟨g, cap, by simp, h.row⟩
/-- The least set of a row, where it is known. -/
theorem least_e (b cap : Nat) (x0 : BitVec 64) (L : List (BitVec 64)) (hl : L.length < 1000000) (V M : BitVec 64) (e : Tn.leastM x0 0#64 L = (V, M)) (w : World) (hr : RowB w b (x0 :: L)) : Calls Try.prog 13 #[.slice (some ⟨b, 0, none⟩) (L.length + 1) cap] w fun e w' => e = .returned (.agg #[.int .u64 (iv V), .int .u64 (iv M)]) ∧ Gr w w' := by
  have h := least_any b cap x0 L hl w hr
  rw [e] at h
  exact h
theorem cell_al {w : World} {a : Addr} {v : Value} {o : Obj} (h : w.cell? a = some v) : (w.alloc o).cell? a = some v := by
  rw [World.cell?_alloc_some _ _ _ (by rw [h]; rfl), h]
theorem cell_st {w : World} {b b' o o' : Nat} {v u : Value} (hb : b ≠ b') (h : w.cell? ⟨b, o, none⟩ = some v) : (w.setCell ⟨b', o', none⟩ u).cell? ⟨b, o, none⟩ = some v := by
  rw [← h]
  exact World.cell?_of_block (Below.heap_setCell w ⟨b', o', none⟩ u b hb)
theorem RowB.news {w : World} {b : Nat} {L : List (BitVec 64)} (h : RowB w b L) : ∀ (q : Nat) (u : Value), (L.map fun x => Value.int .u64 (iv x))[q]? = some u → w.cell? ((⟨b, 0, none⟩ : Addr).add q) = some u := fun q u hu => by
  have hadd : (⟨b, 0, none⟩ : Addr).add q = ⟨b, q, none⟩ := by unfold Addr.add; split <;> simp_all
  rw [hadd]
  rw [List.getElem?_map] at hu
  cases e : L[q]? with
  | none => rw [e] at hu; cases hu
  | some x => rw [e] at hu; cases hu; exact h q x e
theorem ones (L : List (BitVec 64)) : ∀ u ∈ L.map (fun x => Value.int .u64 (iv x)), u.oneCell' = true := fun u hu => by
  obtain ⟨x, _, rfl⟩ := List.mem_map.1 hu
  rfl
end Go.Proofs.Ytkfjjpdcbdbdiaa
