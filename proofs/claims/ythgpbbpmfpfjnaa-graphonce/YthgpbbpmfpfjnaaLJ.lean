/- Towards the statements of package list (layer 15): calls of a list by what it holds. -/
import Derived.Test.YthgpbbpmfpfjnaaLI
namespace Go.Proofs.Ythgpbbpmfpfjnaa
open Go.ChangeShapes Go.WideShapes Go.ChangeAt Go.RowKit
set_option linter.unusedVariables false
set_option linter.unusedSimpArgs false
set_option maxRecDepth 20000
def pushM (K : List HKey) (k : HKey) (q : Bool) : List HKey := if k ∈ K then K else if q then k :: K else K ++ [k]
theorem idx_atG {α : Type} [BEq α] [LawfulBEq α] {x : α} : ∀ {l : List α}, l.Nodup → ∀ {j : Nat}, l[j]? = some x → l.idxOf x = j
  | [], _, j, h => by simp at h
  | a :: l, hn, 0, h => by simp at h; subst h; simp
  | a :: l, hn, j + 1, h => by
    rw [List.getElem?_cons_succ] at h
    rw [List.nodup_cons] at hn
    have : a ≠ x := fun q => hn.1 (q ▸ List.mem_of_getElem? h)
    simp [List.idxOf_cons, beq_false_of_ne this, idx_atG hn.2 h]
theorem FL.trans {B : Nat} {S S' S'' : List Nat} {w w' w'' : World} (h : FL B S S' w w') (k : FL B S' S'' w' w'') : FL B S S'' w w'' := by
  refine ⟨h.bel.trans k.bel, fun i hi hn => ?_, fun x hx => ?_⟩
  · have hs := h.bel.size
    refine (k.keep i (by omega) fun q => ?_).trans (h.keep i hi hn)
    rcases h.new i q with r | r
    · exact hn r
    · omega
  · have hs := h.bel.size
    rcases k.new x hx with r | r
    · exact h.new x r
    · right; omega
theorem FL.of {B : Nat} {S : List Nat} {w w' : World} (h : Below w.heap.size w w') (hB : B ≤ w.heap.size) : FL B S S w w' := ⟨h.mono hB, fun k hk _ => h.block k hk, fun x hx => .inl hx⟩
theorem Li.size {w : World} {B b : Nat} {K : List HKey} {S : List Nat} (h : Li w B b K S) : B ≤ w.heap.size := by
  obtain ⟨m, e, nx, pv, ky, N, rfl, rfl, hL⟩ := h
  exact hL.size
theorem Li.lt {w : World} {B b : Nat} {K : List HKey} {S : List Nat} (h : Li w B b K S) : ∀ x ∈ S, B ≤ x ∧ x < w.heap.size := by
  obtain ⟨m, e, nx, pv, ky, N, rfl, rfl, hL⟩ := h
  intro x hx
  refine ⟨?_, hL.lt x hx⟩
  rcases List.mem_cons.1 hx with rfl | hx
  · exact hL.bB
  rcases List.mem_cons.1 hx with rfl | hx
  · exact hL.mB
  · exact hL.eB x hx
theorem Li.nd {w : World} {B b : Nat} {K : List HKey} {S : List Nat} (h : Li w B b K S) : K.Nodup := by
  obtain ⟨m, e, nx, pv, ky, N, rfl, rfl, hL⟩ := h
  exact hL.kd
theorem Li.keep {w w' : World} {B b : Nat} {K : List HKey} {S : List Nat} (h : Li w B b K S) (hk : ∀ k ∈ S, w'.heap[k]? = w.heap[k]?) : Li w' B b K S := by
  obtain ⟨m, e, nx, pv, ky, N, rfl, rfl, hL⟩ := h
  exact ⟨m, e, nx, pv, ky, N, rfl, rfl, hL.below hk⟩
theorem Li.bel {w w' : World} {B b : Nat} {K : List HKey} {S : List Nat} (h : Li w B b K S) (hb : Below w.heap.size w w') : Li w' B b K S := h.keep fun k hk => hb.block k (h.lt k hk).2
theorem Li.alloc {w : World} {B b : Nat} {K : List HKey} {S : List Nat} (h : Li w B b K S) (o : Obj) : Li (w.alloc o) B b K S := h.bel ((Below.refl _ w).alloc (Nat.le_refl _) _)
theorem Li.drew {w : World} {B b : Nat} {K : List HKey} {S : List Nat} (h : Li w B b K S) : Li w.drew B b K S := h.bel (Below.refl _ _).drew
/-- A list stays as it is under calls of another one. -/
theorem Li.other {w w' : World} {B b B' : Nat} {K : List HKey} {S T T' : List Nat} (h : Li w B b K S) (hF : FL B' T T' w w') (hd : ∀ x ∈ S, x ∉ T) : Li w' B b K S := h.keep fun k hk => hF.keep k (h.lt k hk).2 (hd k hk)
theorem Li.base {w : World} {B B' b : Nat} {K : List HKey} {S : List Nat} (h : Li w B b K S) (hB : B' ≤ B) : Li w B' b K S := by
  obtain ⟨m, e, nx, pv, ky, N, rfl, rfl, hL⟩ := h
  exact ⟨m, e, nx, pv, ky, N, rfl, rfl, hL.cells, Nat.le_trans hB hL.bB, Nat.le_trans hB hL.mB, fun x hx => Nat.le_trans hB (hL.eB x hx), hL.map, hL.ring, hL.nd, hL.lk, hL.kd⟩
theorem new_li (w : World) : Calls Try.prog 32 #[] w fun e w' => ∃ b S, e = .returned (.pointer (some ⟨b, 0, none⟩)) ∧ Li w' w.heap.size b [] S ∧ Below w.heap.size w w' :=
  (new_any w).mono fun e w' ⟨b, m, en, h1, h2, h3⟩ => ⟨b, _, h1, ⟨m, en, _, _, _, [], rfl, rfl, h2⟩, h3⟩
theorem push_li (w : World) (B b : Nat) (K : List HKey) (S : List Nat) (h : Li w B b K S) (k : HKey) (q : Bool) :
    Calls Try.prog 80 #[.pointer (some ⟨b, 0, none⟩), .agg #[.int .i64 k.1, .int .u64 k.2], .bool q] w fun e w' => e = .returned (.int .i64 (if k ∈ K then 7 else 0)) ∧ ∃ S', Li w' B b (pushM K k q) S' ∧ FL B S S' w w' := by
  have hB := h.size
  have h' := h
  obtain ⟨m, e, nx, pv, ky, N, rfl, rfl, hL⟩ := h
  by_cases hk : k ∈ N.map ky
  · rw [pushM, if_pos hk, if_pos hk]
    exact (push_there w B b m e nx pv ky N hL k hk q).mono fun e1 w' ⟨h1, h2⟩ => ⟨h1, _, h'.bel h2, FL.of h2 hB⟩
  · rw [pushM, if_neg hk, if_neg hk]
    exact push_ok w B b m e nx pv ky N hL k hk q
theorem remove_li (w : World) (B b : Nat) (K : List HKey) (S : List Nat) (h : Li w B b K S) (k : HKey) :
    Calls Try.prog 91 #[.pointer (some ⟨b, 0, none⟩), .agg #[.int .i64 k.1, .int .u64 k.2]] w fun e w' => e = .returned (.bool (decide (k ∈ K))) ∧ ∃ S', Li w' B b (K.erase k) S' ∧ FL B S S' w w' := by
  obtain ⟨m, e, nx, pv, ky, N, rfl, rfl, hL⟩ := h
  exact remove_any w B b m e nx pv ky N hL k
theorem peek_li (w : World) (B b : Nat) (K : List HKey) (S : List Nat) (h : Li w B b K S) (q : Bool) :
    Calls Try.prog 79 #[.pointer (some ⟨b, 0, none⟩), .bool q] w fun e w' => e = .returned (.tuple #[oV (endM K q), .bool (endM K q).isSome]) ∧ Below w.heap.size w w' := by
  obtain ⟨m, e, nx, pv, ky, N, rfl, rfl, hL⟩ := h
  exact peek_any w B b m e nx pv ky N hL q
theorem has_li (w : World) (B b : Nat) (K : List HKey) (S : List Nat) (h : Li w B b K S) (k : HKey) :
    Calls Try.prog 83 #[.pointer (some ⟨b, 0, none⟩), .agg #[.int .i64 k.1, .int .u64 k.2]] w fun e w' => e = .returned (.bool (decide (k ∈ K))) ∧ Below w.heap.size w w' := by
  obtain ⟨m, e, nx, pv, ky, N, rfl, rfl, hL⟩ := h
  exact has_any w B b m e nx pv ky N hL k
theorem len_li (w : World) (B b : Nat) (K : List HKey) (S : List Nat) (h : Li w B b K S) :
    Calls Try.prog 78 #[.pointer (some ⟨b, 0, none⟩)] w fun e w' => e = .returned (.int .i64 (K.length : Int)) ∧ w' = w := by
  obtain ⟨m, e, nx, pv, ky, N, rfl, rfl, hL⟩ := h
  rw [List.length_map]
  exact len_any w B b m e nx pv ky N hL
theorem next_li (w : World) (B b : Nat) (K : List HKey) (S : List Nat) (h : Li w B b K S) (k : HKey) :
    Calls Try.prog 90 #[.pointer (some ⟨b, 0, none⟩), .agg #[.int .i64 k.1, .int .u64 k.2]] w fun e w' => e = .returned (.tuple #[oV (nextM K k), .bool (nextM K k).isSome]) ∧ Below w.heap.size w w' := by
  obtain ⟨m, e, nx, pv, ky, N, rfl, rfl, hL⟩ := h
  refine (next_any w B b m e nx pv ky N hL k).mono ?_
  rintro e1 w' ⟨o, rfl, ho, hb⟩
  have : o = nextM (N.map ky) k := by
    unfold nextM
    rcases ho with ⟨hk, rfl⟩ | ⟨x, hx, hxk, ho⟩
    · rw [List.getElem?_eq_none]
      have := List.idxOf_eq_length hk
      omega
    · obtain ⟨j, hj⟩ := List.getElem?_of_mem hx
      have hi : (N.map ky).idxOf k = j := idx_atG (x := k) hL.kd (by rw [List.getElem?_map, hj]; simp [hxk])
      rw [hi, List.getElem?_map]
      have hn := hL.ring.at (j + 1) x (by simpa using hj)
      have hnd := hL.nd
      rw [List.nodup_cons] at hnd
      rcases ho with ⟨h1, rfl⟩ | ⟨h1, rfl⟩
      · rw [h1] at hn
        by_cases hl : j + 1 < N.length
        · rw [List.getElem?_append_left hl] at hn
          exact absurd (List.mem_of_getElem? hn) hnd.1
        · rw [List.getElem?_eq_none (by omega)]; rfl
      · by_cases hl : j + 1 < N.length
        · rw [List.getElem?_append_left hl] at hn
          rw [hn]; rfl
        · rw [List.getElem?_append_right (by omega)] at hn
          have h2 := List.mem_of_getElem? hn
          simp at h2
          rw [h2] at h1
          exact absurd h1 hnd.1
  subst this
  exact ⟨by cases nextM (N.map ky) k <;> rfl, hb⟩
theorem all_li (w : World) (B b : Nat) (K : List HKey) (S : List Nat) (h : Li w B b K S) (hlen : K.length ≤ 100000) :
    Calls Try.prog 77 #[.pointer (some ⟨b, 0, none⟩)] w fun e w' => ∃ v, e = .returned v ∧ w'.ownsRow w.heap.size 31 2 v K.length (hCells K) ∧ Below w.heap.size w w' := by
  obtain ⟨m, e, nx, pv, ky, N, rfl, rfl, hL⟩ := h
  rw [List.length_map] at hlen ⊢
  exact all_any w B b m e nx pv ky N hL hlen
end Go.Proofs.Ythgpbbpmfpfjnaa
