/- Towards the statements of package tree (layer 16): the calls, by the row of handles alone. -/
import Derived.Test.YthgpbbpmfpfjnaaTP
namespace Go.Proofs.Ythgpbbpmfpfjnaa.T
open Go.ChangeShapes Go.WideShapes Go.ChangeAt Go.RowKit
set_option linter.unusedVariables false
set_option linter.unusedSimpArgs false
set_option maxRecDepth 20000
/-- A tree at block b that has the handles K. -/
def Tk [Inhabited FarT] (w : World) (B b : Nat) (K : List HKey) : Prop := ∃ m top M T, Tw w B b m top M T ∧ T.keys = K
section
variable {w w' : World} {B b : Nat} {K : List HKey}
theorem Tk.keep [Inhabited FarT] (h : Tk w B b K) (hb : Below w.heap.size w w') : Tk w' B b K := by
  obtain ⟨m, top, M, T, h1, h2⟩ := h
  exact ⟨m, top, M, T, h1.keep hb, h2⟩
theorem Tk.alloc [Inhabited FarT] (h : Tk w B b K) (o : Obj) : Tk (w.alloc o) B b K := h.keep ((Below.refl _ w).alloc (Nat.le_refl _) _)
theorem Tk.size [Inhabited FarT] (h : Tk w B b K) : B ≤ w.heap.size := by
  obtain ⟨m, top, M, T, h1, h2⟩ := h
  exact h1.size
theorem Tk.nd [Inhabited FarT] (h : Tk w B b K) : K.Nodup := by
  obtain ⟨m, top, M, T, h1, h2⟩ := h
  exact h2 ▸ h1.kd
theorem Tk.len [Inhabited FarT] (h : Tk w B b K) : K.length ≤ 2000 := by
  obtain ⟨m, top, M, T, h1, h2⟩ := h
  rw [← h2, Tr.keys_len]
  exact h1.len
theorem Tk.drew [Inhabited FarT] (h : Tk w B b K) : Tk w.drew B b K := h.keep (Below.refl _ _).drew
theorem Tk.drewN [Inhabited FarT] (h : Tk w B b K) (n : Nat) : Tk (w.drewN n) B b K := h.keep (Below.drewN (Below.refl _ _) n)
end
def oV (o : Option HKey) : Value := .agg #[.int .i64 ((o.map Prod.fst).getD 0), .int .u64 (((o.map Prod.snd).getD 0 : Nat) : Int)]
def insR (K : List HKey) (i : Int) (k : HKey) : Int := if i < 0 ∨ (K.length : Int) < i then 2 else if k ∈ K then 7 else 0
def insK (K : List HKey) (i : Int) (k : HKey) : List HKey := if insR K i k = 0 then K.take i.toNat ++ k :: K.drop i.toNat else K
def idxR (K : List HKey) (k : HKey) : Int := if k ∈ K then (K.idxOf k : Int) else 0
def atM (K : List HKey) (i : Int) : Option HKey := if i < 0 then none else K[i.toNat]?
theorem idx_atG {α : Type} [BEq α] [LawfulBEq α] {x : α} : ∀ {l : List α}, l.Nodup → ∀ {j : Nat}, l[j]? = some x → l.idxOf x = j
  | [], _, j, h => by simp at h
  | a :: l, hn, 0, h => by simp at h; subst h; simp
  | a :: l, hn, j + 1, h => by
    rw [List.getElem?_cons_succ] at h
    rw [List.nodup_cons] at hn
    have : a ≠ x := fun q => hn.1 (q ▸ List.mem_of_getElem? h)
    simp [List.idxOf_cons, beq_false_of_ne this, idx_atG hn.2 h]
theorem cut_mid {K : List HKey} (hn : K.Nodup) {j : Nat} {k : HKey} (h : K[j]? = some k) : K.take j ++ K.drop (j + 1) = K.erase k := by
  have hl := (List.getElem?_eq_some_iff.1 h).1
  have e : K = K.take j ++ k :: K.drop (j + 1) := by
    have : K[j] = k := (List.getElem?_eq_some_iff.1 h).2
    rw [← this, ← List.drop_eq_getElem_cons hl, List.take_append_drop]
  have hk : k ∉ K.take j := fun q => by
    rw [e] at hn
    exact (List.nodup_append.1 hn).2.2 k q k (by simp) rfl
  conv => rhs; rw [e]
  rw [List.erase_append_right _ hk]
  simp
theorem ins_tk [Inhabited FarT] (w : World) (B b : Nat) (K : List HKey) (h : Tk w B b K) (hl : K.length + 1 ≤ 2000) (i : Int) (k : HKey) :
    Calls Try.prog 96 #[.pointer (some ⟨b, 0, none⟩), .int .i64 i, .agg #[.int .i64 k.1, .int .u64 k.2]] w fun e w' => e = .returned (.int .i64 (insR K i k)) ∧ Tk w' B b (insK K i k) ∧ Ft B w w' := by
  have h0 := h
  obtain ⟨m, top, M, T, h1, rfl⟩ := h
  have hB := h1.size
  rw [Tr.keys_len] at hl
  unfold insK insR
  rw [Tr.keys_len]
  by_cases hi : i < 0 ∨ (T.size : Int) < i
  · simp only [if_pos hi]
    exact (tins_arg w B b m top M T h1 i hi k).mono fun e w' ⟨e1, e2⟩ => ⟨e1, h0.keep e2, Ft.of e2 hB⟩
  · simp only [if_neg hi]
    by_cases hk : k ∈ T.keys
    · simp only [if_pos hk]
      exact (tins_in w B b m top M T h1 i (by omega) (by omega) k hk).mono fun e w' ⟨e1, e2⟩ => ⟨e1, h0.keep e2, Ft.of e2 hB⟩
    · simp only [if_neg hk, if_true]
      obtain ⟨j, rfl⟩ : ∃ j : Nat, i = (j : Int) := ⟨i.toNat, by omega⟩
      exact (tins_ok w B b m top M T h1 j (by omega) k hk hl).mono fun e w' ⟨e1, ⟨M', T', e2, e3⟩, e4⟩ => ⟨e1, ⟨m, top, M', T', e2, e3⟩, e4⟩
theorem rem_tk [Inhabited FarT] (w : World) (B b : Nat) (K : List HKey) (h : Tk w B b K) (k : HKey) :
    Calls Try.prog 115 #[.pointer (some ⟨b, 0, none⟩), .agg #[.int .i64 k.1, .int .u64 k.2]] w fun e w' => e = .returned (.tuple #[.int .i64 (idxR K k), .bool (decide (k ∈ K))]) ∧ Tk w' B b (K.erase k) ∧ Ft B w w' := by
  have h0 := h
  obtain ⟨m, top, M, T, h1, rfl⟩ := h
  have hB := h1.size
  unfold idxR
  by_cases hk : k ∈ T.keys
  · rw [if_pos hk, decide_eq_true hk]
    obtain ⟨j, hj⟩ := List.getElem?_of_mem hk
    rw [idx_atG h1.kd hj, ← cut_mid h1.kd hj]
    exact (trem_yes w B b m top M T h1 j k hj).mono fun e w' ⟨e1, ⟨M', T', e2, e3⟩, e4⟩ => ⟨e1, ⟨m, top, M', T', e2, e3⟩, e4⟩
  · rw [if_neg hk, decide_eq_false hk, List.erase_of_not_mem hk]
    exact (trem_no w B b m top M T h1 k hk).mono fun e w' ⟨e1, e2⟩ => ⟨e1, h0.keep e2, Ft.of e2 hB⟩
theorem idx_tk [Inhabited FarT] (w : World) (B b : Nat) (K : List HKey) (h : Tk w B b K) (k : HKey) :
    Calls Try.prog 116 #[.pointer (some ⟨b, 0, none⟩), .agg #[.int .i64 k.1, .int .u64 k.2]] w fun e w' => e = .returned (.tuple #[.int .i64 (idxR K k), .bool (decide (k ∈ K))]) ∧ Below w.heap.size w w' := by
  obtain ⟨m, top, M, T, h1, rfl⟩ := h
  unfold idxR
  by_cases hk : k ∈ T.keys
  · rw [if_pos hk, decide_eq_true hk]
    obtain ⟨j, hj⟩ := List.getElem?_of_mem hk
    rw [idx_atG h1.kd hj]
    obtain ⟨c, a, l, r, hT, hi⟩ := place_at h1.kd hj
    have := index_yes w B b m top M T h1 k c a l r hT
    rw [hi] at this
    exact this
  · rw [if_neg hk, decide_eq_false hk]
    exact index_no w B b m top M T h1 k hk
theorem at_tk [Inhabited FarT] (w : World) (B b : Nat) (K : List HKey) (h : Tk w B b K) (i : Int) :
    Calls Try.prog 94 #[.pointer (some ⟨b, 0, none⟩), .int .i64 i] w fun e w' => e = .returned (.tuple #[oV (atM K i), .bool (atM K i).isSome]) ∧ Below w.heap.size w w' := by
  obtain ⟨m, top, M, T, h1, rfl⟩ := h
  by_cases hi : i < 0 ∨ (T.size : Int) ≤ i
  · have : atM T.keys i = none := by
      unfold atM
      split
      · rfl
      · exact List.getElem?_eq_none (by rw [Tr.keys_len]; omega)
    rw [this]
    exact tat_no w B b m top M T h1 i hi
  · obtain ⟨j, rfl⟩ : ∃ j : Nat, i = (j : Int) := ⟨i.toNat, by omega⟩
    refine (tat_yes w B b m top M T h1 j (by omega)).mono ?_
    rintro e w' ⟨a, k, e1, rfl, e2⟩
    have : atM T.keys (j : Int) = some k := by
      unfold atM Tr.keys
      rw [if_neg (by omega), Int.toNat_natCast, List.getElem?_map, e1]; rfl
    rw [this]
    exact ⟨rfl, e2⟩
theorem len_tk [Inhabited FarT] (w : World) (B b : Nat) (K : List HKey) (h : Tk w B b K) :
    Calls Try.prog 97 #[.pointer (some ⟨b, 0, none⟩)] w fun e w' => e = .returned (.int .i64 (K.length : Int)) ∧ w' = w := by
  obtain ⟨m, top, M, T, h1, rfl⟩ := h
  rw [Tr.keys_len]
  exact len_any w B b m top M T h1
theorem all_tk [Inhabited FarT] (w : World) (B b : Nat) (K : List HKey) (h : Tk w B b K) :
    Calls Try.prog 93 #[.pointer (some ⟨b, 0, none⟩)] w fun e' w' => ∃ v, e' = .returned v ∧ w'.ownsRow w.heap.size 31 2 v K.length (hCells K) ∧ Below w.heap.size w w' := by
  obtain ⟨m, top, M, T, h1, rfl⟩ := h
  exact all_any w B b m top M T h1
theorem low_le {d D n : Nat} (h1 : 2 ^ (d / 2) ≤ n) (h2 : n < 2 ^ D) : d ≤ 2 * D := by
  have : 2 ^ (d / 2) < 2 ^ D := by omega
  have := (Nat.pow_lt_pow_iff_right (a := 2) (by omega)).1 this
  omega
end Go.Proofs.Ythgpbbpmfpfjnaa.T
