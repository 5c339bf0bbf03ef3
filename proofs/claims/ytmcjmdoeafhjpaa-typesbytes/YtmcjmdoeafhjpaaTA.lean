/- Towards the statements of package types (layer 10): tables in memory. -/
import Derived.Test.YtmcjmdoeafhjpaaGet
import Derived.Deep.RegionHeld3
import Derived.Deep.DeepCutAuto
import Derived.Deep.RegionWith
import Derived.Laws.EntriesVeiled
import Derived.Handy
namespace Go.Proofs.Ytmcjmdoeafhjpaa
open Go.ChangeShapes Go.WideShapes Go.ChangeAt Go.RowKit
set_option linter.unusedVariables false
set_option linter.unusedSimpArgs false
set_option maxRecDepth 20000

/-- Behind a call that makes memory of its own. -/
abbrev Bl (w w' : World) : Prop := Below w.heap.size w w'
theorem Bl.refl (w : World) : Bl w w := Below.refl _ w
theorem Bl.trans {a b c : World} (h : Bl a b) (k : Bl b c) : Bl a c := Below.trans h (Below.mono k h.size)
theorem Bl.alloc {a w : World} (h : Bl a w) (o : Obj) : Bl a (w.alloc o) := Below.alloc h h.size o
theorem Bl.cell {w w' : World} (h : Bl w w') {b k : Nat} (hb : b < w.heap.size) : w'.cell? ⟨b, k, none⟩ = w.cell? ⟨b, k, none⟩ := World.cell?_of_block (w := w) (h.block b hb)
def I64 (x : Int) : Prop := -9223372036854775808 ≤ x ∧ x ≤ 9223372036854775807
/-- A field. -/
structure Fd where
  n : ByteArray
  k : Int
  a : Int
  o : Int
  d : Int
deriving DecidableEq
structure Fd.ok (x : Fd) : Prop where
  n : x.n.size ≤ maxLen
  k : 0 ≤ x.k ∧ x.k ≤ 255
  a : I64 x.a
  o : I64 x.o
  d : I64 x.d
def Fd.v (x : Fd) : Value := .agg #[.string x.n, .int .u8 x.k, .int .i64 x.a, .int .i64 x.o, .int .i64 x.d]
/-- A field at a place of memory. -/
def FCell (w : World) (b k : Nat) (x : Fd) : Prop := w.cell? ⟨b, k, none⟩ = some (.string x.n) ∧ w.cell? ⟨b, k + 1, none⟩ = some (.int .u8 x.k) ∧ w.cell? ⟨b, k + 2, none⟩ = some (.int .i64 x.a) ∧ w.cell? ⟨b, k + 3, none⟩ = some (.int .i64 x.o) ∧ w.cell? ⟨b, k + 4, none⟩ = some (.int .i64 x.d)
theorem FCell.gr {w w' : World} {b k : Nat} {x : Fd} (h : FCell w b k x) (hb0 : b < w.heap.size) (hb : Bl w w') : FCell w' b k x :=
  ⟨(hb.cell hb0).trans h.1, (hb.cell hb0).trans h.2.1, (hb.cell hb0).trans h.2.2.1, (hb.cell hb0).trans h.2.2.2.1, (hb.cell hb0).trans h.2.2.2.2⟩
/-- The slice at p has the fields l. -/
structure Flds (w : World) (p : Option Addr) (l : List Fd) : Prop where
  ok : ∀ x ∈ l, x.ok
  len : l.length ≤ maxLen
  at' : l = [] ∨ ∃ b off, p = some ⟨b, off, none⟩ ∧ b < w.heap.size ∧ ∀ (j : Nat) (x : Fd), l[j]? = some x → FCell w b (off + j * 5) x
theorem Flds.gr {w w' : World} {p : Option Addr} {l : List Fd} (h : Flds w p l) (hb : Bl w w') : Flds w' p l := by
  refine ⟨h.ok, h.len, ?_⟩
  rcases h.at' with e | ⟨b, off, e, hb1, hc⟩
  · exact .inl e
  · exact .inr ⟨b, off, e, Nat.lt_of_lt_of_le hb1 hb.size, fun j x hx => (hc j x hx).gr hb1 hb⟩
theorem Flds.get {w : World} {p : Option Addr} {l : List Fd} (h : Flds w p l) {j : Nat} {x : Fd} (hx : l[j]? = some x) : ∃ b off, p = some ⟨b, off, none⟩ ∧ b < w.heap.size ∧ FCell w b (off + j * 5) x ∧ x.ok ∧ j < l.length := by
  have hl : j < l.length := (List.getElem?_eq_some_iff.1 hx).1
  rcases h.at' with e2 | ⟨b, off, e, hb1, hc⟩
  · rw [e2] at hl; simp at hl
  · exact ⟨b, off, e, hb1, hc _ _ hx, h.ok x (List.mem_of_getElem? hx), hl⟩
theorem Flds.take {w : World} {p : Option Addr} {l : List Fd} (h : Flds w p l) (n : Nat) : Flds w p (l.take n) := by
  refine ⟨fun x hx => h.ok x (List.mem_of_mem_take hx), by rw [List.length_take]; have := h.len; omega, ?_⟩
  rcases h.at' with e | ⟨b, off, e, hb1, hc⟩
  · exact .inl (by rw [e]; simp)
  · refine .inr ⟨b, off, e, hb1, fun j x hx => hc j x ?_⟩
    rw [List.getElem?_take] at hx
    split at hx
    · exact hx
    · cases hx
theorem Flds.nil (w : World) (p : Option Addr) : Flds w p [] := ⟨by simp, by simp, .inl rfl⟩
/-- A type. -/
structure Ty where
  n : ByteArray
  s : Int
  p : Option Addr
  c : Nat
  fs : List Fd
def Ty.v (t : Ty) : Value := .agg #[.string t.n, .int .i64 t.s, .slice t.p t.fs.length t.c]
structure Ty.ok (w : World) (t : Ty) : Prop where
  n : t.n.size ≤ maxLen
  s : I64 t.s
  c : t.fs.length ≤ t.c ∧ t.c ≤ maxLen
  f : Flds w t.p t.fs
theorem Ty.ok.gr {w w' : World} {t : Ty} (h : t.ok w) (hb : Bl w w') : t.ok w' := ⟨h.n, h.s, h.c, h.f.gr hb⟩
def TCell (w : World) (b k : Nat) (t : Ty) : Prop := w.cell? ⟨b, k, none⟩ = some (.string t.n) ∧ w.cell? ⟨b, k + 1, none⟩ = some (.int .i64 t.s) ∧ w.cell? ⟨b, k + 2, none⟩ = some (.slice t.p t.fs.length t.c)
theorem TCell.gr {w w' : World} {b k : Nat} {t : Ty} (h : TCell w b k t) (hb0 : b < w.heap.size) (hb : Bl w w') : TCell w' b k t :=
  ⟨(hb.cell hb0).trans h.1, (hb.cell hb0).trans h.2.1, (hb.cell hb0).trans h.2.2⟩
structure Tys (w : World) (p : Option Addr) (L : List Ty) : Prop where
  ok : ∀ t ∈ L, t.ok w
  len : L.length ≤ maxLen
  at' : L = [] ∨ ∃ b off, p = some ⟨b, off, none⟩ ∧ b < w.heap.size ∧ ∀ (j : Nat) (t : Ty), L[j]? = some t → TCell w b (off + j * 3) t
theorem Tys.gr {w w' : World} {p : Option Addr} {L : List Ty} (h : Tys w p L) (hb : Bl w w') : Tys w' p L := by
  refine ⟨fun t ht => (h.ok t ht).gr hb, h.len, ?_⟩
  rcases h.at' with e | ⟨b, off, e, hb1, hc⟩
  · exact .inl e
  · exact .inr ⟨b, off, e, Nat.lt_of_lt_of_le hb1 hb.size, fun j x hx => (hc j x hx).gr hb1 hb⟩
theorem Tys.get {w : World} {p : Option Addr} {L : List Ty} (h : Tys w p L) {j : Nat} {t : Ty} (hx : L[j]? = some t) : ∃ b off, p = some ⟨b, off, none⟩ ∧ b < w.heap.size ∧ TCell w b (off + j * 3) t ∧ t.ok w ∧ j < L.length := by
  have hl : j < L.length := (List.getElem?_eq_some_iff.1 hx).1
  rcases h.at' with e2 | ⟨b, off, e, hb1, hc⟩
  · rw [e2] at hl; simp at hl
  · exact ⟨b, off, e, hb1, hc _ _ hx, h.ok t (List.mem_of_getElem? hx), hl⟩
theorem Tys.take {w : World} {p : Option Addr} {L : List Ty} (h : Tys w p L) (n : Nat) : Tys w p (L.take n) := by
  refine ⟨fun x hx => h.ok x (List.mem_of_mem_take hx), by rw [List.length_take]; have := h.len; omega, ?_⟩
  rcases h.at' with e | ⟨b, off, e, hb1, hc⟩
  · exact .inl (by rw [e]; simp)
  · refine .inr ⟨b, off, e, hb1, fun j x hx => hc j x ?_⟩
    rw [List.getElem?_take] at hx
    split at hx
    · exact hx
    · cases hx
/-- The place of the first one of which it is so. -/
def idxM {α : Type} (P : α → Bool) (l : List α) : Int := match l.findIdx? P with
  | some i => i
  | none => -1
theorem idx_none {α : Type} {P : α → Bool} {l : List α} (h : ∀ x ∈ l, P x = false) : idxM P l = -1 := by
  have : l.findIdx? P = none := List.findIdx?_eq_none_iff.2 h
  rw [idxM, this]
theorem idx_some {α : Type} {P : α → Bool} {l : List α} {i : Nat} {x : α} (hx : l[i]? = some x) (h : P x = true) (h0 : ∀ j y, j < i → l[j]? = some y → P y = false) : idxM P l = i := by
  have hi := (List.getElem?_eq_some_iff.1 hx).1
  have he := (List.getElem?_eq_some_iff.1 hx).2
  have : l.findIdx? P = some i := by
    rw [List.findIdx?_eq_some_iff_getElem]
    refine ⟨hi, by rw [he]; exact h, fun j hj => ?_⟩
    have := h0 j l[j] hj (List.getElem?_eq_getElem _)
    simp [this]
  rw [idxM, this]
theorem idx_ge {α : Type} (P : α → Bool) (l : List α) : decide (0 ≤ idxM P l) = l.any P := by
  unfold idxM
  cases h : l.findIdx? P with
  | none =>
    rw [List.findIdx?_eq_none_iff] at h
    have : l.any P = false := by simpa using h
    rw [this]; rfl
  | some i =>
    obtain ⟨hi, hp, _⟩ := List.findIdx?_eq_some_iff_getElem.1 h
    have : l.any P = true := List.any_eq_true.2 ⟨l[i], List.getElem_mem _, hp⟩
    rw [this]; simp
theorem idx_case {α : Type} (P : α → Bool) (l : List α) : (idxM P l = -1 ∧ l.any P = false) ∨ ∃ i : Nat, idxM P l = i ∧ i < l.length ∧ l.any P = true := by
  have hg := idx_ge P l
  unfold idxM at hg ⊢
  cases h : l.findIdx? P with
  | none => rw [h] at hg; exact .inl ⟨rfl, hg.symm⟩
  | some i =>
    obtain ⟨hi, hp, _⟩ := List.findIdx?_eq_some_iff_getElem.1 h
    exact .inr ⟨i, rfl, hi, List.any_eq_true.2 ⟨l[i], List.getElem_mem _, hp⟩⟩
def sizeM (k : Int) : Int := if k = 1 ∨ k = 6 ∨ k = 7 then 8 else if k = 2 ∨ k = 3 ∨ k = 4 ∨ k = 5 then 16 else 0
theorem sizeM_bd (k : Int) : 0 ≤ sizeM k ∧ sizeM k ≤ 16 := by unfold sizeM; split; omega; split <;> omega
theorem tsize_any (k : Int) (w : World) : Calls Try.prog 22 #[.int .u8 k] w fun e w' => e = .returned (.int .i64 (sizeM k)) ∧ w' = w := by
  unfold sizeM
  go_enter Try.func22, Try.ntmps22
  go_wp2
  all_goals go_returns
  all_goals (simp_all <;> omega)
theorem rsize_any (k : Int) (w : World) : Calls Try.prog 94 #[.int .u8 k] w fun e w' => e = .returned (.int .i64 (sizeM k)) ∧ w' = w := by
  unfold sizeM
  go_enter Try.func94, Try.ntmps94
  go_wp2
  all_goals go_returns
  all_goals (simp_all <;> omega)
end Go.Proofs.Ytmcjmdoeafhjpaa
