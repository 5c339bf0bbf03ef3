/- Towards HeapPlays and SlabPlays: the document's slab by what it holds. -/
import Derived.Test.YtooblonafnlfcaaDoorDE
namespace Go.Proofs.YtooblonafnlfcaaDoor
open Go.ChangeShapes Go.WideShapes Go.ChangeAt Go.RowKit
set_option linter.unusedVariables false
set_option linter.unusedSimpArgs false
set_option maxRecDepth 20000
def updD (F : Nat → Option (List Int)) (k : Nat) (x : Option (List Int)) : Nat → Option (List Int) := fun s => if s = k then x else F s
/-- What the document's slab holds. -/
structure Ms (S : List Ds) (F : Nat → Option (List Int)) : Prop where
  mem : ∀ s bs, (s, bs) ∈ S ↔ F s = some bs
  up : S.Pairwise (fun a b => a.1 < b.1)
theorem dup_at {X : List Ds} (h : X.Pairwise (fun a b => a.1 < b.1)) {i j : Nat} {a b : Ds} (ha : X[i]? = some a) (hb : X[j]? = some b) (hij : i < j) : a.1 < b.1 := by
  obtain ⟨hi, rfl⟩ := List.getElem?_eq_some_iff.1 ha
  obtain ⟨hj, rfl⟩ := List.getElem?_eq_some_iff.1 hb
  exact List.pairwise_iff_getElem.1 h i j hi hj hij
theorem Ms.no {S : List Ds} {F : Nat → Option (List Int)} (h : Ms S F) {s : Nat} (hL : F s = none) : ∀ x ∈ S, x.1 ≠ s := by
  rintro ⟨a, g⟩ hx rfl
  have := (h.mem a g).1 hx
  simp only at hL
  rw [hL] at this
  cases this
theorem Ms.yes {S : List Ds} {F : Nat → Option (List Int)} (h : Ms S F) {s : Nat} {bs : List Int} (hL : F s = some bs) : ∃ k : Nat, S[k]? = some (s, bs) ∧ ∀ (j : Nat) (x : Ds), j < k → S[j]? = some x → x.1 ≠ s := by
  obtain ⟨k, hk⟩ := List.getElem?_of_mem ((h.mem s bs).2 hL)
  exact ⟨k, hk, fun j x hj hx e => by have := dup_at h.up hx hk hj; simp only at this; omega⟩
/-- The lowest number that is free: what Lst finds. -/
theorem Ms.lst {S : List Ds} {F : Nat → Option (List Int)} (h : Ms S F) {k : Nat} (hk : Lst S k) : F k = none ∧ (∀ j, j < k → (F j).isSome = true) ∧ (∀ x ∈ S.take k, x.1 < k) ∧ ∀ x ∈ S.drop k, k < x.1 := by
  obtain ⟨h1, h2, h3⟩ := hk
  have hlo : ∀ x ∈ S.take k, x.1 < k := fun x hx => by
    obtain ⟨j, hj⟩ := List.getElem?_of_mem hx
    rw [List.getElem?_take] at hj
    split at hj
    · rename_i hlt
      obtain ⟨y, hy, e⟩ := h2 j hlt
      rw [hy] at hj; cases hj; omega
    · cases hj
  have hhi : ∀ x ∈ S.drop k, k < x.1 := fun x hx => by
    obtain ⟨j, hj⟩ := List.getElem?_of_mem hx
    rw [List.getElem?_drop] at hj
    have hge : ∀ (i : Nat) (y : Ds), S[i]? = some y → i ≤ y.1 := fun i => by
      induction i with
      | zero => intro y _; omega
      | succ i ih =>
        intro y hy
        have hl := (List.getElem?_eq_some_iff.1 hy).1
        have e := List.getElem?_eq_getElem (l := S) (i := i) (by omega)
        have := ih _ e
        have := dup_at h.up e hy (by omega)
        omega
    have e1 := hge _ _ hj
    by_cases e : j = 0
    · subst e
      have := h3 x (by simpa using hj)
      omega
    · omega
  refine ⟨?_, fun j hj => ?_, hlo, hhi⟩
  · cases e : F k with
    | none => rfl
    | some bs =>
      have hm := (h.mem k bs).2 e
      rw [← List.take_append_drop k S] at hm
      rcases List.mem_append.1 hm with hm | hm
      · have := hlo _ hm; simp at this
      · have := hhi _ hm; simp at this
  · obtain ⟨y, hy, e⟩ := h2 j hj
    obtain ⟨a, b⟩ := y
    simp only at e
    have := (h.mem a b).1 (List.mem_of_getElem? hy)
    rw [e] at this
    rw [this]; rfl
theorem Ms.ins {S : List Ds} {F : Nat → Option (List Int)} (h : Ms S F) {s : Nat} {g : List Int} {k : Nat} (hlo : ∀ x ∈ S.take k, x.1 < s) (hhi : ∀ x ∈ S.drop k, s < x.1) : Ms (S.take k ++ (s, g) :: S.drop k) (updD F s (some g)) := by
  refine ⟨fun s' g' => ?_, ?_⟩
  · by_cases e : s' = s
    · subst e
      simp only [updD, if_true, List.mem_append, List.mem_cons, Prod.mk.injEq, true_and]
      constructor
      · rintro (h1 | h1 | h1)
        · have := hlo _ h1; simp at this
        · rw [h1]
        · have := hhi _ h1; simp at this
      · intro h1; right; left; exact (Option.some.inj h1).symm
    · rw [show updD F s (some g) s' = F s' by simp [updD, e], ← h.mem]
      simp only [List.mem_append, List.mem_cons, Prod.mk.injEq, e, false_and, false_or]
      rw [← List.mem_append, List.take_append_drop]
  · rw [List.pairwise_append]
    have h0 := h.up
    rw [← List.take_append_drop k S, List.pairwise_append] at h0
    refine ⟨h0.1, List.pairwise_cons.2 ⟨fun x hx => hhi x hx, h0.2.1⟩, fun a ha b hb => ?_⟩
    rcases List.mem_cons.1 hb with rfl | hb
    · exact hlo a ha
    · exact h0.2.2 a ha b hb
theorem split_at {S : List Ds} {k : Nat} {x : Ds} (hk : S[k]? = some x) : S = S.take k ++ x :: S.drop (k + 1) := by
  have hkl := (List.getElem?_eq_some_iff.1 hk).1
  have := List.take_append_drop k S
  rw [List.drop_eq_getElem_cons hkl] at this
  rw [(List.getElem?_eq_some_iff.1 hk).2] at this
  exact this.symm
theorem Ms.era {S : List Ds} {F : Nat → Option (List Int)} (h : Ms S F) {s : Nat} {g : List Int} {k : Nat} (hk : S[k]? = some (s, g)) : Ms (S.take k ++ S.drop (k + 1)) (updD F s none) := by
  have hX := split_at hk
  have h0 := h.up
  rw [hX, List.pairwise_append, List.pairwise_cons] at h0
  refine ⟨fun s' g' => ?_, ?_⟩
  · by_cases e : s' = s
    · subst e
      simp only [updD, if_true, List.mem_append]
      constructor
      · rintro (h1 | h1)
        · have := h0.2.2 _ h1 (s', g) (by simp); simp at this
        · have := h0.2.1.1 _ h1; simp at this
      · intro h1; cases h1
    · simp only [updD, if_neg e]
      rw [← h.mem]
      conv => rhs; rw [hX]
      simp [e]
  · rw [List.pairwise_append]
    exact ⟨h0.1, h0.2.1.2, fun a ha b hb => h0.2.2 a ha b (by simp [hb])⟩
theorem set_split {S : List Ds} {k : Nat} {x y : Ds} (hk : S[k]? = some x) : S.set k y = S.take k ++ y :: S.drop (k + 1) := by
  rw [List.set_eq_take_append_cons_drop, if_pos (List.getElem?_eq_some_iff.1 hk).1]
theorem Ms.put {S : List Ds} {F : Nat → Option (List Int)} (h : Ms S F) {s : Nat} {g g' : List Int} {k : Nat} (hk : S[k]? = some (s, g)) : Ms (S.set k (s, g')) (updD F s (some g')) := by
  have he := h.era hk
  have hX := split_at hk
  have h0 := h.up
  rw [hX, List.pairwise_append, List.pairwise_cons] at h0
  have hkl := (List.getElem?_eq_some_iff.1 hk).1
  have hlk : (S.take k).length = k := by simp; omega
  have e1 : (S.take k ++ S.drop (k + 1)).take k = S.take k := List.take_left' hlk
  have e2 : (S.take k ++ S.drop (k + 1)).drop k = S.drop (k + 1) := List.drop_left' hlk
  have := he.ins (s := s) (g := g') (k := k) (by rw [e1]; exact fun x hx => h0.2.2 x hx (s, g) (by simp)) (by rw [e2]; exact fun x hx => h0.2.1.1 x hx)
  rw [e1, e2, ← set_split hk] at this
  have e3 : updD (updD F s none) s (some g') = updD F s (some g') := by funext j; simp only [updD]; split <;> rfl
  rw [e3] at this
  exact this
theorem dUse_ins (S : List Ds) (k : Nat) (x : Ds) : dUse (S.take k ++ x :: S.drop k) = dUse S + clsM x.2.length := by
  rw [dUse_app, dUse]
  conv => rhs; rw [← List.take_append_drop k S, dUse_app]
  omega
theorem dUse_era {S : List Ds} {k : Nat} {x : Ds} (hk : S[k]? = some x) : dUse (S.take k ++ S.drop (k + 1)) = dUse S - clsM x.2.length := by
  conv => rhs; rw [split_at hk, dUse_app, dUse]
  rw [dUse_app]
  omega
theorem dUse_put {S : List Ds} {k : Nat} {x y : Ds} (hk : S[k]? = some x) (hl : y.2.length = x.2.length) : dUse (S.set k y) = dUse S := by
  rw [set_split hk, dUse_app, dUse, hl]
  conv => rhs; rw [split_at hk, dUse_app, dUse]
/-- The document's slab: its room, what it holds, how much is used. -/
structure Rm (w : World) (B r : Nat) (room : Int) (F : Nat → Option (List Int)) (u : Int) (v : Value) (n : Nat) : Prop where
  ex : ∃ S, Rs w B r room S v ∧ Ms S F ∧ dUse S = u ∧ S.length ≤ n
theorem Rm.below {w w' : World} {B r n : Nat} {room u : Int} {F : Nat → Option (List Int)} {v : Value} (h : Rm w B r room F u v n) (hb : Below w.heap.size w w') : Rm w' B r room F u v n := by
  obtain ⟨S, h1, h2⟩ := h.ex
  exact ⟨S, h1.below hb, h2⟩
theorem rtake_ok (w : World) (B r : Nat) (room u : Int) (F : Nat → Option (List Int)) (v : Value) (n : Nat) (h : Rm w B r room F u v n) (s : Nat) (hs : 1 ≤ s ∧ s ≤ 128) (hf : u + clsM s ≤ room) (hn : n + 1 ≤ 1000) :
    Calls Tryd.prog 34 #[.pointer (some ⟨r, 0, none⟩), .int .i64 s] w fun e w' => ∃ k : Nat, e = .returned (.tuple #[.int .i64 k, .int .i64 0]) ∧ F k = none ∧ (∀ j, j < k → (F j).isSome = true) ∧
      (∃ v', Rm w' B r room (updD F k (some (List.replicate s 0))) (u + clsM s) v' (n + 1)) ∧ Fd B r v w w' := by
  obtain ⟨S, h1, h2, h3, h4⟩ := h.ex
  refine (dtake_any w B r room S v h1 s hs (by rw [h3]; exact hf) (by omega)).mono fun e w' ⟨k, he, hl, ⟨v', hR⟩, hF⟩ => ?_
  obtain ⟨a1, a2, a3, a4⟩ := h2.lst hl
  refine ⟨k, he, a1, a2, ⟨v', ⟨_, hR, h2.ins a3 a4, ?_, ?_⟩⟩, hF⟩
  · rw [dUse_ins, h3]; simp
  · have := hl.1; simp; omega
theorem rtake_full (w : World) (B r : Nat) (room u : Int) (F : Nat → Option (List Int)) (v : Value) (n : Nat) (h : Rm w B r room F u v n) (m : Int) (hc : clsM m ≠ 0) (hf : room < u + clsM m) :
    Calls Tryd.prog 34 #[.pointer (some ⟨r, 0, none⟩), .int .i64 m] w fun e w' => e = .returned (.tuple #[.int .i64 0, .int .i64 6]) ∧ Below w.heap.size w w' := by
  obtain ⟨S, h1, h2, h3, h4⟩ := h.ex
  exact dtake_full w B r room S v h1 m hc (by rw [h3]; exact hf)
theorem rused_any (w : World) (B r : Nat) (room u : Int) (F : Nat → Option (List Int)) (v : Value) (n : Nat) (h : Rm w B r room F u v n) :
    Calls Tryd.prog 20 #[.pointer (some ⟨r, 0, none⟩)] w fun e w' => e = .returned (.int .i64 u) ∧ w' = w := by
  obtain ⟨S, h1, h2, h3, h4⟩ := h.ex
  rw [← h3]
  exact dused_any w B r room S v h1
theorem rgive_no (w : World) (B r : Nat) (room u : Int) (F : Nat → Option (List Int)) (v : Value) (n : Nat) (h : Rm w B r room F u v n) (k : Nat) (hk : F k = none) :
    Calls Tryd.prog 63 #[.pointer (some ⟨r, 0, none⟩), .int .i64 k] w fun e w' => e = .returned (.int .i64 5) ∧ w' = w := by
  obtain ⟨S, h1, h2, h3, h4⟩ := h.ex
  exact dgive_no w B r room S v h1 k (fun x hx e => h2.no hk x hx (by omega))
theorem rgive_ok (w : World) (B r : Nat) (room u : Int) (F : Nat → Option (List Int)) (v : Value) (n : Nat) (h : Rm w B r room F u v n) (k : Nat) (bs : List Int) (hk : F k = some bs) :
    Calls Tryd.prog 63 #[.pointer (some ⟨r, 0, none⟩), .int .i64 k] w fun e w' => e = .returned (.int .i64 0) ∧ (∃ v', Rm w' B r room (updD F k none) (u - clsM bs.length) v' n) ∧ Fd B r v w w' := by
  obtain ⟨S, h1, h2, h3, h4⟩ := h.ex
  obtain ⟨i, hi, hd⟩ := h2.yes hk
  refine (dgive_ok w B r room S v h1 i k bs hi hd).mono fun e w' ⟨he, ⟨v', hR⟩, hF⟩ => ⟨he, ⟨v', ⟨_, hR, h2.era hi, by rw [dUse_era hi, h3], by simp; omega⟩⟩, hF⟩
theorem rread_no (w : World) (B r : Nat) (room u : Int) (F : Nat → Option (List Int)) (v : Value) (n : Nat) (h : Rm w B r room F u v n) (k : Nat) (hk : F k = none) (a m : Int) :
    Calls Tryd.prog 64 #[.pointer (some ⟨r, 0, none⟩), .int .i64 k, .int .i64 a, .int .i64 m] w fun e w' => e = .returned (.tuple #[.string ⟨#[]⟩, .int .i64 5]) ∧ w' = w := by
  obtain ⟨S, h1, h2, h3, h4⟩ := h.ex
  exact dread_no w B r room S v h1 k a m (fun x hx e => h2.no hk x hx (by omega))
theorem rread_at (w : World) (B r : Nat) (room u : Int) (F : Nat → Option (List Int)) (v : Value) (n : Nat) (h : Rm w B r room F u v n) (k : Nat) (bs : List Int) (hk : F k = some bs) (a m : Int) (ha : I64 a) (hm : I64 m) :
    Calls Tryd.prog 64 #[.pointer (some ⟨r, 0, none⟩), .int .i64 k, .int .i64 a, .int .i64 m] w fun e w' => e = .returned (.tuple #[.string (inS bs a m), .int .i64 (inE bs a m)]) ∧ w' = w := by
  obtain ⟨S, h1, h2, h3, h4⟩ := h.ex
  obtain ⟨i, hi, hd⟩ := h2.yes hk
  exact dread_at w B r room S v h1 i k bs hi hd a m ha hm
theorem rwrite_no (w : World) (B r : Nat) (room u : Int) (F : Nat → Option (List Int)) (v : Value) (n : Nat) (h : Rm w B r room F u v n) (k : Nat) (hk : F k = none) (a : Int) (t : ByteArray) :
    Calls Tryd.prog 65 #[.pointer (some ⟨r, 0, none⟩), .int .i64 k, .int .i64 a, .string t] w fun e w' => e = .returned (.int .i64 5) ∧ w' = w := by
  obtain ⟨S, h1, h2, h3, h4⟩ := h.ex
  exact dwrite_no w B r room S v h1 k a t (fun x hx e => h2.no hk x hx (by omega))
theorem rwrite_range (w : World) (B r : Nat) (room u : Int) (F : Nat → Option (List Int)) (v : Value) (n : Nat) (h : Rm w B r room F u v n) (k : Nat) (bs : List Int) (hk : F k = some bs) (a : Int) (t : ByteArray) (ha : I64 a) (ht : t.size ≤ maxLen) (hf : ¬ (0 ≤ a ∧ a + (t.size : Int) ≤ bs.length)) :
    Calls Tryd.prog 65 #[.pointer (some ⟨r, 0, none⟩), .int .i64 k, .int .i64 a, .string t] w fun e w' => e = .returned (.int .i64 120) ∧ Below w.heap.size w w' := by
  obtain ⟨S, h1, h2, h3, h4⟩ := h.ex
  obtain ⟨i, hi, hd⟩ := h2.yes hk
  exact dwrite_range w B r room S v h1 i k bs hi hd a t ha ht hf
theorem rwrite_ok (w : World) (B r : Nat) (room u : Int) (F : Nat → Option (List Int)) (v : Value) (n : Nat) (h : Rm w B r room F u v n) (k : Nat) (bs : List Int) (hk : F k = some bs) (a : Nat) (t : ByteArray) (hf : a + t.size ≤ bs.length) :
    Calls Tryd.prog 65 #[.pointer (some ⟨r, 0, none⟩), .int .i64 k, .int .i64 a, .string t] w fun e w' => e = .returned (.int .i64 0) ∧ Rm w' B r room (updD F k (some (wr bs a t))) u v n ∧ Fd B r v w w' := by
  obtain ⟨S, h1, h2, h3, h4⟩ := h.ex
  obtain ⟨i, hi, hd⟩ := h2.yes hk
  refine (dwrite_ok w B r room S v h1 i k bs hi hd a t hf).mono fun e w' ⟨he, hR, hF⟩ => ⟨he, ⟨_, hR, h2.put hi, by rw [dUse_put hi (by simpa using wr_len bs a t hf), h3], by simpa using h4⟩, hF⟩
end Go.Proofs.YtooblonafnlfcaaDoor
