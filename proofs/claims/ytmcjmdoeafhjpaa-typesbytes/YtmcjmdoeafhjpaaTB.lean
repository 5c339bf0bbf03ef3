/- Towards the statements of package types (layer 10): closures over fields, and where the first one is. -/
import Derived.Test.YtmcjmdoeafhjpaaTA
namespace Go.Proofs.Ytmcjmdoeafhjpaa
open Go.ChangeShapes Go.WideShapes Go.ChangeAt Go.RowKit
set_option linter.unusedVariables false
set_option linter.unusedSimpArgs false
set_option maxRecDepth 20000

def coversM (x : Fd) (f t : Int) : Bool := decide (0 < sizeM x.k) && decide (x.a < t) && decide (f - sizeM x.k < x.a)
theorem covers_any (x : Fd) (f t : Int) (hf : 0 ≤ f ∧ f ≤ 9223372036854775807) (w : World) : Calls Try.prog 59 #[.agg #[.string x.n, .int .u8 x.k, .int .i64 x.a, .int .i64 x.o, .int .i64 x.d], .int .i64 f, .int .i64 t] w fun e w' => e = .returned (.bool (coversM x f t)) ∧ Bl w w' := by
  have k1 := fun W => tsize_any x.k W
  have hb := sizeM_bd x.k
  unfold coversM
  generalize sizeM x.k = n at k1 hb ⊢
  have e1 : IntKind.i64.wrap (f - n) = f - n := IntWalk.i64_in _ (by omega)
  cases d1 : decide (0 < n) with
  | false =>
    go_enter Try.func59, Try.ntmps59
    go_wp2_with (go_at_call 22; refine (k1 _).mono ?_; rintro e w' ⟨rfl, rfl⟩)
    all_goals go_returns
    all_goals exact ⟨by simp, (Bl.refl _).alloc _⟩
  | true =>
    cases d2 : decide (x.a < t) with
    | false =>
      go_enter Try.func59, Try.ntmps59
      go_wp2_with (go_at_call 22; refine (k1 _).mono ?_; rintro e w' ⟨rfl, rfl⟩)
      all_goals go_returns
      all_goals exact ⟨by simp, (Bl.refl _).alloc _⟩
    | true =>
      go_enter Try.func59, Try.ntmps59
      go_wp2_with (go_at_call 22; refine (k1 _).mono ?_; rintro e w' ⟨rfl, rfl⟩)
      all_goals go_returns
      all_goals exact ⟨by simp, (Bl.refl _).alloc _⟩
theorem at1_any (x : Fd) (pb : Nat) (at_ : Int) (w : World) (hc : w.cell? ⟨pb, 0, none⟩ = some (.int .i64 at_)) (hp : pb < w.heap.size) : Calls Try.prog 55 #[x.v, .pointer (some ⟨pb, 0, none⟩)] w fun e w' => e = .returned (.bool (x.a == at_)) ∧ Bl w w' := by
  have hc' := (((Bl.refl w).alloc (.cells #[.string x.n, .int .u8 x.k, .int .i64 x.a, .int .i64 x.o, .int .i64 x.d] 48)).cell (k := 0) hp).trans hc
  unfold Fd.v
  go_enter Try.func55, Try.ntmps55
  go_wp2
  go_returns
  exact ⟨rfl, (Bl.refl _).alloc _⟩
theorem has1_any (x : Fd) (pb : Nat) (k : Int) (w : World) (hc : w.cell? ⟨pb, 0, none⟩ = some (.int .u8 k)) (hp : pb < w.heap.size) : Calls Try.prog 57 #[x.v, .pointer (some ⟨pb, 0, none⟩)] w fun e w' => e = .returned (.bool (x.k == k)) ∧ Bl w w' := by
  have hc' := (((Bl.refl w).alloc (.cells #[.string x.n, .int .u8 x.k, .int .i64 x.a, .int .i64 x.o, .int .i64 x.d] 48)).cell (k := 0) hp).trans hc
  unfold Fd.v
  go_enter Try.func57, Try.ntmps57
  go_wp2
  go_returns
  exact ⟨rfl, (Bl.refl _).alloc _⟩
theorem cf1_any (x : Fd) (pb : Nat) (n : ByteArray) (w : World) (hc : w.cell? ⟨pb, 0, none⟩ = some (.string n)) (hp : pb < w.heap.size) : Calls Try.prog 92 #[x.v, .pointer (some ⟨pb, 0, none⟩)] w fun e w' => e = .returned (.bool (x.n.toList == n.toList)) ∧ Bl w w' := by
  have hc' := (((Bl.refl w).alloc (.cells #[.string x.n, .int .u8 x.k, .int .i64 x.a, .int .i64 x.o, .int .i64 x.d] 48)).cell (k := 0) hp).trans hc
  unfold Fd.v
  go_enter Try.func92, Try.ntmps92
  go_wp2
  go_returns
  exact ⟨rfl, (Bl.refl _).alloc _⟩
theorem of1_any (t : Ty) (pb : Nat) (n : ByteArray) (w : World) (hc : w.cell? ⟨pb, 0, none⟩ = some (.string n)) (hp : pb < w.heap.size) : Calls Try.prog 50 #[t.v, .pointer (some ⟨pb, 0, none⟩)] w fun e w' => e = .returned (.bool (t.n.toList == n.toList)) ∧ Bl w w' := by
  have hc' := (((Bl.refl w).alloc (.cells #[.string t.n, .int .i64 t.s, .slice t.p t.fs.length t.c] 42)).cell (k := 0) hp).trans hc
  unfold Ty.v
  go_enter Try.func50, Try.ntmps50
  go_wp2
  go_returns
  exact ⟨rfl, (Bl.refl _).alloc _⟩
theorem plain1_any (x : Fd) (pb qb : Nat) (at_ sz : Int) (w : World) (h0 : 0 ≤ at_) (h1 : at_ + sz ≤ 9223372036854775807) (h2 : 0 ≤ sz) (hc : w.cell? ⟨pb, 0, none⟩ = some (.int .i64 at_)) (hq : w.cell? ⟨qb, 0, none⟩ = some (.int .i64 sz)) (hp : pb < w.heap.size) (hq0 : qb < w.heap.size) : Calls Try.prog 58 #[x.v, .pointer (some ⟨pb, 0, none⟩), .pointer (some ⟨qb, 0, none⟩)] w fun e w' => e = .returned (.bool (coversM x at_ (at_ + sz))) ∧ Bl w w' := by
  have hc' := (((Bl.refl w).alloc (.cells #[.string x.n, .int .u8 x.k, .int .i64 x.a, .int .i64 x.o, .int .i64 x.d] 48)).cell (k := 0) hp).trans hc
  have hq' := (((Bl.refl w).alloc (.cells #[.string x.n, .int .u8 x.k, .int .i64 x.a, .int .i64 x.o, .int .i64 x.d] 48)).cell (k := 0) hq0).trans hq
  have e1 : IntKind.i64.wrap (at_ + sz) = at_ + sz := IntWalk.i64_in _ (by omega)
  have k1 := fun W => covers_any x at_ (at_ + sz) ⟨h0, by omega⟩ W
  unfold Fd.v
  go_enter Try.func58, Try.ntmps58
  go_wp2_with (go_at_call 59; refine (k1 _).mono ?_; rintro e w' ⟨rfl, hb⟩)
  go_returns
  exact ⟨rfl, ((Bl.refl _).alloc _).trans hb⟩
def firstI {α : Type} (P : α → Bool) (l : List α) : Int := if l.any P then idxM P l else 0
/-- A row of bytes. -/
structure Row8 (w : World) (p : Option Addr) (K : List Int) : Prop where
  len : K.length ≤ 1000
  at' : K = [] ∨ ∃ b off, p = some ⟨b, off, none⟩ ∧ b < w.heap.size ∧ ∀ (j : Nat) (x : Int), K[j]? = some x → w.cell? ⟨b, off + j, none⟩ = some (.int .u8 x)
theorem Row8.gr {w w' : World} {p : Option Addr} {K : List Int} (h : Row8 w p K) (hb : Bl w w') : Row8 w' p K := by
  refine ⟨h.len, ?_⟩
  rcases h.at' with e | ⟨b, off, e, hb1, hc⟩
  · exact .inl e
  · exact .inr ⟨b, off, e, Nat.lt_of_lt_of_le hb1 hb.size, fun j x hx => (hb.cell hb1).trans (hc j x hx)⟩
theorem index8_any (p : Option Addr) (c : Nat) (K : List Int) (v : Int) (w : World) (hl : Row8 w p K) : Calls Try.prog 96 #[.slice p K.length c, .int .u8 v] w fun e w' => e = .returned (.int .i64 (idxM (fun x => v == x) K)) ∧ w' = w := by
  have hlen := hl.len
  go_enter Try.func96, Try.ntmps96
  go_wp2
  go_loopw [8] (fun n wr => ∃ i : Nat, n = .int .i64 i ∧ i ≤ K.length ∧ (∀ j y, j < i → K[j]? = some y → (v == y) = false) ∧ wr = w) (fun n _ => K.length - (intOf n).toNat)
  case atStart => exact ⟨0, rfl, by omega, by intro j y h; omega, rfl⟩
  case round =>
    obtain ⟨i, rfl, hi, hpre, hb⟩ := hrel
    replace hpre : Hid _ := hpre
    rw [hb]; clear hb
    by_cases h : i < K.length
    · have d : decide ((i : Int) < K.length) = true := by simp; omega
      obtain ⟨x, hx⟩ : ∃ x, K[i]? = some x := ⟨K[i], List.getElem?_eq_getElem _⟩
      rcases hl.at' with e2 | ⟨b, off, rfl, hb1, hc⟩
      · rw [e2] at h; simp at h
      have c0 := hc i x hx
      replace hx : Hid (K[i]? = some x) := hx
      clear hc
      have e9 : IntKind.i64.wrap ((i : Int) + 1) = (i : Int) + 1 := IntWalk.i64_in _ (by omega)
      cases hP : (v == x) with
      | true =>
        have hr : Hid (idxM (fun x => v == x) K = i) := idx_some hx.out hP hpre.out
        go_wp2
        try rw [Exit.noGoto_ret]
        go_returns
        exact ⟨by rw [hr.out]; try rfl, rfl⟩
      | false =>
        go_wp2
        refine ⟨⟨i + 1, by simp, by omega, fun j y hj hy => ?_, by trivial⟩, by simp [intOf]; omega⟩
        by_cases hji : j = i
        · subst hji; rw [hx.out] at hy; cases hy; exact hP
        · exact hpre.out j y (by omega) hy
    · have d : decide ((i : Int) < K.length) = false := by simp; omega
      have hr : Hid (idxM (fun x => v == x) K = -1) := idx_none fun x hx => by
        obtain ⟨j, hj⟩ := List.getElem?_of_mem hx
        exact hpre.out j x (by have := (List.getElem?_eq_some_iff.1 hj).1; omega) hj
      go_wp2
      go_returns
      exact ⟨by rw [hr.out]; try rfl, rfl⟩
theorem contains8_any (p : Option Addr) (c : Nat) (K : List Int) (v : Int) (w : World) (hl : Row8 w p K) : Calls Try.prog 86 #[.slice p K.length c, .int .u8 v] w fun e w' => e = .returned (.bool (K.any fun x => v == x)) ∧ w' = w := by
  have k1 := index8_any p c K v w hl
  have hg := idx_ge (fun x => v == x) K
  go_enter Try.func86, Try.ntmps86
  go_wp2_with (go_at_call 96; refine k1.mono ?_; rintro e w' ⟨rfl, hw⟩; rw [hw]; clear hw)
  go_returns
  exact ⟨by first | rfl | rw [hg], rfl⟩
theorem one1_any (x : Fd) (pb : Nat) (p : Option Addr) (c : Nat) (K : List Int) (w : World) (hl : Row8 w p K) (hc : w.cell? ⟨pb, 0, none⟩ = some (.slice p K.length c)) (hp : pb < w.heap.size) : Calls Try.prog 85 #[x.v, .pointer (some ⟨pb, 0, none⟩)] w fun e w' => e = .returned (.bool (K.any fun y => x.k == y)) ∧ Bl w w' := by
  have hb0 := (Bl.refl w).alloc (.cells #[.string x.n, .int .u8 x.k, .int .i64 x.a, .int .i64 x.o, .int .i64 x.d] 48)
  have hc' := (hb0.cell (k := 0) hp).trans hc
  have k1 := contains8_any p c K x.k _ (hl.gr hb0)
  unfold Fd.v
  go_enter Try.func85, Try.ntmps85
  go_wp2_with (go_at_call 86; refine k1.mono ?_; rintro e w' ⟨rfl, hw⟩; rw [hw]; clear hw)
  go_returns
  exact ⟨rfl, (Bl.refl _).alloc _⟩

set_option maxHeartbeats 1000000 in
theorem idx_55 (q0 : Value) (P : Fd → Bool) (p : Option Addr) (c : Nat) (l : List Fd) (w : World) (hl : Flds w p l) (hc : ∀ W, Bl w W → ∀ x ∈ l, Calls Try.prog 55 #[x.v, q0] W fun e w' => e = .returned (.bool (P x)) ∧ Bl W w') :
    Calls Try.prog 83 #[.slice p l.length c, .func (.func 55) #[] #[q0]] w fun e w' => e = .returned (.int .i64 (idxM P l)) ∧ Bl w w' := by
  have hlen := hl.len
  unfold maxLen at hlen
  go_enter Try.func83, Try.ntmps83
  go_wp2
  go_loopw [8] (fun n wr => ∃ i : Nat, n = .int .i64 i ∧ i ≤ l.length ∧ (∀ j y, j < i → l[j]? = some y → P y = false) ∧ Bl w wr) (fun n _ => l.length - (intOf n).toNat)
  case atStart => exact ⟨0, rfl, by omega, by intro j y h; omega, Bl.refl w⟩
  case round =>
    obtain ⟨i, rfl, hi, hpre, hb⟩ := hrel
    replace hpre : Hid _ := hpre
    by_cases h : i < l.length
    · have d : decide ((i : Int) < l.length) = true := by simp; omega
      obtain ⟨x, hx⟩ : ∃ x, l[i]? = some x := ⟨l[i], List.getElem?_eq_getElem _⟩
      obtain ⟨b, off, rfl, hb1, ⟨c0, c1, c2, c3, c4⟩, hok, _⟩ := (hl.gr hb).get hx
      have hk := hc _ hb x (List.mem_of_getElem? hx)
      replace hx : Hid (l[i]? = some x) := hx
      have e9 : IntKind.i64.wrap ((i : Int) + 1) = (i : Int) + 1 := IntWalk.i64_in _ (by omega)
      cases hP : P x with
      | true =>
        rw [hP] at hk
        have hr : Hid (idxM P l = i) := idx_some hx.out hP hpre.out
        go_wp2_with (go_at_call 55; refine hk.mono ?_; rintro e w' ⟨rfl, hb2⟩)
        try rw [Exit.noGoto_ret]
        go_returns
        exact ⟨by rw [hr.out]; try rfl, hb.trans hb2⟩
      | false =>
        rw [hP] at hk
        go_wp2_with (go_at_call 55; refine hk.mono ?_; rintro e w' ⟨rfl, hb2⟩)
        refine ⟨⟨i + 1, by simp, by omega, fun j y hj hy => ?_, hb.trans hb2⟩, by simp [intOf]; omega⟩
        by_cases hji : j = i
        · subst hji; rw [hx.out] at hy; cases hy; exact hP
        · exact hpre.out j y (by omega) hy
    · have d : decide ((i : Int) < l.length) = false := by simp; omega
      have hr : Hid (idxM P l = -1) := idx_none fun x hx => by
        obtain ⟨j, hj⟩ := List.getElem?_of_mem hx
        exact hpre.out j x (by have := (List.getElem?_eq_some_iff.1 hj).1; omega) hj
      go_wp2
      go_returns
      exact ⟨by rw [hr.out]; try rfl, hb⟩
theorem first_55 (q0 : Value) (P : Fd → Bool) (p : Option Addr) (c : Nat) (l : List Fd) (w : World) (hl : Flds w p l) (hc : ∀ W, Bl w W → ∀ x ∈ l, Calls Try.prog 55 #[x.v, q0] W fun e w' => e = .returned (.bool (P x)) ∧ Bl W w') :
    Calls Try.prog 54 #[.slice p l.length c, .func (.func 55) #[] #[q0]] w fun e w' => e = .returned (.tuple #[.int .i64 (firstI P l), .bool (l.any P)]) ∧ Bl w w' := by
  have k1 := idx_55 q0 P p c l w hl hc
  rcases idx_case P l with ⟨h1, h2⟩ | ⟨i, h1, hi, h2⟩
  · have e1 : firstI P l = 0 := by rw [firstI, h2]; rfl
    rw [e1, h2]
    rw [h1] at k1
    clear h1 h2 e1
    go_enter Try.func54, Try.ntmps54
    go_wp2_with (go_at_call 83; refine k1.mono ?_; rintro e w' ⟨rfl, hb⟩)
    go_returns
    exact ⟨rfl, hb⟩
  · have e1 : firstI P l = i := by rw [firstI, h2, if_pos rfl, h1]
    rw [e1, h2]
    rw [h1] at k1
    clear h1 h2 e1
    have d : decide ((0 : Int) ≤ i) = true := by simp
    go_enter Try.func54, Try.ntmps54
    go_wp2_with (go_at_call 83; refine k1.mono ?_; rintro e w' ⟨rfl, hb⟩)
    go_returns
    exact ⟨rfl, hb⟩

set_option maxHeartbeats 1000000 in
theorem idx_57 (q0 : Value) (P : Fd → Bool) (p : Option Addr) (c : Nat) (l : List Fd) (w : World) (hl : Flds w p l) (hc : ∀ W, Bl w W → ∀ x ∈ l, Calls Try.prog 57 #[x.v, q0] W fun e w' => e = .returned (.bool (P x)) ∧ Bl W w') :
    Calls Try.prog 83 #[.slice p l.length c, .func (.func 57) #[] #[q0]] w fun e w' => e = .returned (.int .i64 (idxM P l)) ∧ Bl w w' := by
  have hlen := hl.len
  unfold maxLen at hlen
  go_enter Try.func83, Try.ntmps83
  go_wp2
  go_loopw [8] (fun n wr => ∃ i : Nat, n = .int .i64 i ∧ i ≤ l.length ∧ (∀ j y, j < i → l[j]? = some y → P y = false) ∧ Bl w wr) (fun n _ => l.length - (intOf n).toNat)
  case atStart => exact ⟨0, rfl, by omega, by intro j y h; omega, Bl.refl w⟩
  case round =>
    obtain ⟨i, rfl, hi, hpre, hb⟩ := hrel
    replace hpre : Hid _ := hpre
    by_cases h : i < l.length
    · have d : decide ((i : Int) < l.length) = true := by simp; omega
      obtain ⟨x, hx⟩ : ∃ x, l[i]? = some x := ⟨l[i], List.getElem?_eq_getElem _⟩
      obtain ⟨b, off, rfl, hb1, ⟨c0, c1, c2, c3, c4⟩, hok, _⟩ := (hl.gr hb).get hx
      have hk := hc _ hb x (List.mem_of_getElem? hx)
      replace hx : Hid (l[i]? = some x) := hx
      have e9 : IntKind.i64.wrap ((i : Int) + 1) = (i : Int) + 1 := IntWalk.i64_in _ (by omega)
      cases hP : P x with
      | true =>
        rw [hP] at hk
        have hr : Hid (idxM P l = i) := idx_some hx.out hP hpre.out
        go_wp2_with (go_at_call 57; refine hk.mono ?_; rintro e w' ⟨rfl, hb2⟩)
        try rw [Exit.noGoto_ret]
        go_returns
        exact ⟨by rw [hr.out]; try rfl, hb.trans hb2⟩
      | false =>
        rw [hP] at hk
        go_wp2_with (go_at_call 57; refine hk.mono ?_; rintro e w' ⟨rfl, hb2⟩)
        refine ⟨⟨i + 1, by simp, by omega, fun j y hj hy => ?_, hb.trans hb2⟩, by simp [intOf]; omega⟩
        by_cases hji : j = i
        · subst hji; rw [hx.out] at hy; cases hy; exact hP
        · exact hpre.out j y (by omega) hy
    · have d : decide ((i : Int) < l.length) = false := by simp; omega
      have hr : Hid (idxM P l = -1) := idx_none fun x hx => by
        obtain ⟨j, hj⟩ := List.getElem?_of_mem hx
        exact hpre.out j x (by have := (List.getElem?_eq_some_iff.1 hj).1; omega) hj
      go_wp2
      go_returns
      exact ⟨by rw [hr.out]; try rfl, hb⟩
theorem first_57 (q0 : Value) (P : Fd → Bool) (p : Option Addr) (c : Nat) (l : List Fd) (w : World) (hl : Flds w p l) (hc : ∀ W, Bl w W → ∀ x ∈ l, Calls Try.prog 57 #[x.v, q0] W fun e w' => e = .returned (.bool (P x)) ∧ Bl W w') :
    Calls Try.prog 54 #[.slice p l.length c, .func (.func 57) #[] #[q0]] w fun e w' => e = .returned (.tuple #[.int .i64 (firstI P l), .bool (l.any P)]) ∧ Bl w w' := by
  have k1 := idx_57 q0 P p c l w hl hc
  rcases idx_case P l with ⟨h1, h2⟩ | ⟨i, h1, hi, h2⟩
  · have e1 : firstI P l = 0 := by rw [firstI, h2]; rfl
    rw [e1, h2]
    rw [h1] at k1
    clear h1 h2 e1
    go_enter Try.func54, Try.ntmps54
    go_wp2_with (go_at_call 83; refine k1.mono ?_; rintro e w' ⟨rfl, hb⟩)
    go_returns
    exact ⟨rfl, hb⟩
  · have e1 : firstI P l = i := by rw [firstI, h2, if_pos rfl, h1]
    rw [e1, h2]
    rw [h1] at k1
    clear h1 h2 e1
    have d : decide ((0 : Int) ≤ i) = true := by simp
    go_enter Try.func54, Try.ntmps54
    go_wp2_with (go_at_call 83; refine k1.mono ?_; rintro e w' ⟨rfl, hb⟩)
    go_returns
    exact ⟨rfl, hb⟩

set_option maxHeartbeats 1000000 in
theorem idx_58 (q0 q1 : Value) (P : Fd → Bool) (p : Option Addr) (c : Nat) (l : List Fd) (w : World) (hl : Flds w p l) (hc : ∀ W, Bl w W → ∀ x ∈ l, Calls Try.prog 58 #[x.v, q0, q1] W fun e w' => e = .returned (.bool (P x)) ∧ Bl W w') :
    Calls Try.prog 83 #[.slice p l.length c, .func (.func 58) #[] #[q0, q1]] w fun e w' => e = .returned (.int .i64 (idxM P l)) ∧ Bl w w' := by
  have hlen := hl.len
  unfold maxLen at hlen
  go_enter Try.func83, Try.ntmps83
  go_wp2
  go_loopw [8] (fun n wr => ∃ i : Nat, n = .int .i64 i ∧ i ≤ l.length ∧ (∀ j y, j < i → l[j]? = some y → P y = false) ∧ Bl w wr) (fun n _ => l.length - (intOf n).toNat)
  case atStart => exact ⟨0, rfl, by omega, by intro j y h; omega, Bl.refl w⟩
  case round =>
    obtain ⟨i, rfl, hi, hpre, hb⟩ := hrel
    replace hpre : Hid _ := hpre
    by_cases h : i < l.length
    · have d : decide ((i : Int) < l.length) = true := by simp; omega
      obtain ⟨x, hx⟩ : ∃ x, l[i]? = some x := ⟨l[i], List.getElem?_eq_getElem _⟩
      obtain ⟨b, off, rfl, hb1, ⟨c0, c1, c2, c3, c4⟩, hok, _⟩ := (hl.gr hb).get hx
      have hk := hc _ hb x (List.mem_of_getElem? hx)
      replace hx : Hid (l[i]? = some x) := hx
      have e9 : IntKind.i64.wrap ((i : Int) + 1) = (i : Int) + 1 := IntWalk.i64_in _ (by omega)
      cases hP : P x with
      | true =>
        rw [hP] at hk
        have hr : Hid (idxM P l = i) := idx_some hx.out hP hpre.out
        go_wp2_with (go_at_call 58; refine hk.mono ?_; rintro e w' ⟨rfl, hb2⟩)
        try rw [Exit.noGoto_ret]
        go_returns
        exact ⟨by rw [hr.out]; try rfl, hb.trans hb2⟩
      | false =>
        rw [hP] at hk
        go_wp2_with (go_at_call 58; refine hk.mono ?_; rintro e w' ⟨rfl, hb2⟩)
        refine ⟨⟨i + 1, by simp, by omega, fun j y hj hy => ?_, hb.trans hb2⟩, by simp [intOf]; omega⟩
        by_cases hji : j = i
        · subst hji; rw [hx.out] at hy; cases hy; exact hP
        · exact hpre.out j y (by omega) hy
    · have d : decide ((i : Int) < l.length) = false := by simp; omega
      have hr : Hid (idxM P l = -1) := idx_none fun x hx => by
        obtain ⟨j, hj⟩ := List.getElem?_of_mem hx
        exact hpre.out j x (by have := (List.getElem?_eq_some_iff.1 hj).1; omega) hj
      go_wp2
      go_returns
      exact ⟨by rw [hr.out]; try rfl, hb⟩
theorem first_58 (q0 q1 : Value) (P : Fd → Bool) (p : Option Addr) (c : Nat) (l : List Fd) (w : World) (hl : Flds w p l) (hc : ∀ W, Bl w W → ∀ x ∈ l, Calls Try.prog 58 #[x.v, q0, q1] W fun e w' => e = .returned (.bool (P x)) ∧ Bl W w') :
    Calls Try.prog 54 #[.slice p l.length c, .func (.func 58) #[] #[q0, q1]] w fun e w' => e = .returned (.tuple #[.int .i64 (firstI P l), .bool (l.any P)]) ∧ Bl w w' := by
  have k1 := idx_58 q0 q1 P p c l w hl hc
  rcases idx_case P l with ⟨h1, h2⟩ | ⟨i, h1, hi, h2⟩
  · have e1 : firstI P l = 0 := by rw [firstI, h2]; rfl
    rw [e1, h2]
    rw [h1] at k1
    clear h1 h2 e1
    go_enter Try.func54, Try.ntmps54
    go_wp2_with (go_at_call 83; refine k1.mono ?_; rintro e w' ⟨rfl, hb⟩)
    go_returns
    exact ⟨rfl, hb⟩
  · have e1 : firstI P l = i := by rw [firstI, h2, if_pos rfl, h1]
    rw [e1, h2]
    rw [h1] at k1
    clear h1 h2 e1
    have d : decide ((0 : Int) ≤ i) = true := by simp
    go_enter Try.func54, Try.ntmps54
    go_wp2_with (go_at_call 83; refine k1.mono ?_; rintro e w' ⟨rfl, hb⟩)
    go_returns
    exact ⟨rfl, hb⟩

set_option maxHeartbeats 1000000 in
theorem idx_85 (q0 : Value) (P : Fd → Bool) (p : Option Addr) (c : Nat) (l : List Fd) (w : World) (hl : Flds w p l) (hc : ∀ W, Bl w W → ∀ x ∈ l, Calls Try.prog 85 #[x.v, q0] W fun e w' => e = .returned (.bool (P x)) ∧ Bl W w') :
    Calls Try.prog 83 #[.slice p l.length c, .func (.func 85) #[] #[q0]] w fun e w' => e = .returned (.int .i64 (idxM P l)) ∧ Bl w w' := by
  have hlen := hl.len
  unfold maxLen at hlen
  go_enter Try.func83, Try.ntmps83
  go_wp2
  go_loopw [8] (fun n wr => ∃ i : Nat, n = .int .i64 i ∧ i ≤ l.length ∧ (∀ j y, j < i → l[j]? = some y → P y = false) ∧ Bl w wr) (fun n _ => l.length - (intOf n).toNat)
  case atStart => exact ⟨0, rfl, by omega, by intro j y h; omega, Bl.refl w⟩
  case round =>
    obtain ⟨i, rfl, hi, hpre, hb⟩ := hrel
    replace hpre : Hid _ := hpre
    by_cases h : i < l.length
    · have d : decide ((i : Int) < l.length) = true := by simp; omega
      obtain ⟨x, hx⟩ : ∃ x, l[i]? = some x := ⟨l[i], List.getElem?_eq_getElem _⟩
      obtain ⟨b, off, rfl, hb1, ⟨c0, c1, c2, c3, c4⟩, hok, _⟩ := (hl.gr hb).get hx
      have hk := hc _ hb x (List.mem_of_getElem? hx)
      replace hx : Hid (l[i]? = some x) := hx
      have e9 : IntKind.i64.wrap ((i : Int) + 1) = (i : Int) + 1 := IntWalk.i64_in _ (by omega)
      cases hP : P x with
      | true =>
        rw [hP] at hk
        have hr : Hid (idxM P l = i) := idx_some hx.out hP hpre.out
        go_wp2_with (go_at_call 85; refine hk.mono ?_; rintro e w' ⟨rfl, hb2⟩)
        try rw [Exit.noGoto_ret]
        go_returns
        exact ⟨by rw [hr.out]; try rfl, hb.trans hb2⟩
      | false =>
        rw [hP] at hk
        go_wp2_with (go_at_call 85; refine hk.mono ?_; rintro e w' ⟨rfl, hb2⟩)
        refine ⟨⟨i + 1, by simp, by omega, fun j y hj hy => ?_, hb.trans hb2⟩, by simp [intOf]; omega⟩
        by_cases hji : j = i
        · subst hji; rw [hx.out] at hy; cases hy; exact hP
        · exact hpre.out j y (by omega) hy
    · have d : decide ((i : Int) < l.length) = false := by simp; omega
      have hr : Hid (idxM P l = -1) := idx_none fun x hx => by
        obtain ⟨j, hj⟩ := List.getElem?_of_mem hx
        exact hpre.out j x (by have := (List.getElem?_eq_some_iff.1 hj).1; omega) hj
      go_wp2
      go_returns
      exact ⟨by rw [hr.out]; try rfl, hb⟩
theorem cont_85 (q0 : Value) (P : Fd → Bool) (p : Option Addr) (c : Nat) (l : List Fd) (w : World) (hl : Flds w p l) (hc : ∀ W, Bl w W → ∀ x ∈ l, Calls Try.prog 85 #[x.v, q0] W fun e w' => e = .returned (.bool (P x)) ∧ Bl W w') :
    Calls Try.prog 84 #[.slice p l.length c, .func (.func 85) #[] #[q0]] w fun e w' => e = .returned (.bool (l.any P)) ∧ Bl w w' := by
  have k1 := idx_85 q0 P p c l w hl hc
  have hg := idx_ge P l
  go_enter Try.func84, Try.ntmps84
  go_wp2_with (go_at_call 83; refine k1.mono ?_; rintro e w' ⟨rfl, hb⟩)
  go_returns
  exact ⟨by first | rfl | rw [hg], hb⟩

set_option maxHeartbeats 1000000 in
theorem idx_92 (q0 : Value) (P : Fd → Bool) (p : Option Addr) (c : Nat) (l : List Fd) (w : World) (hl : Flds w p l) (hc : ∀ W, Bl w W → ∀ x ∈ l, Calls Try.prog 92 #[x.v, q0] W fun e w' => e = .returned (.bool (P x)) ∧ Bl W w') :
    Calls Try.prog 83 #[.slice p l.length c, .func (.func 92) #[] #[q0]] w fun e w' => e = .returned (.int .i64 (idxM P l)) ∧ Bl w w' := by
  have hlen := hl.len
  unfold maxLen at hlen
  go_enter Try.func83, Try.ntmps83
  go_wp2
  go_loopw [8] (fun n wr => ∃ i : Nat, n = .int .i64 i ∧ i ≤ l.length ∧ (∀ j y, j < i → l[j]? = some y → P y = false) ∧ Bl w wr) (fun n _ => l.length - (intOf n).toNat)
  case atStart => exact ⟨0, rfl, by omega, by intro j y h; omega, Bl.refl w⟩
  case round =>
    obtain ⟨i, rfl, hi, hpre, hb⟩ := hrel
    replace hpre : Hid _ := hpre
    by_cases h : i < l.length
    · have d : decide ((i : Int) < l.length) = true := by simp; omega
      obtain ⟨x, hx⟩ : ∃ x, l[i]? = some x := ⟨l[i], List.getElem?_eq_getElem _⟩
      obtain ⟨b, off, rfl, hb1, ⟨c0, c1, c2, c3, c4⟩, hok, _⟩ := (hl.gr hb).get hx
      have hk := hc _ hb x (List.mem_of_getElem? hx)
      replace hx : Hid (l[i]? = some x) := hx
      have e9 : IntKind.i64.wrap ((i : Int) + 1) = (i : Int) + 1 := IntWalk.i64_in _ (by omega)
      cases hP : P x with
      | true =>
        rw [hP] at hk
        have hr : Hid (idxM P l = i) := idx_some hx.out hP hpre.out
        go_wp2_with (go_at_call 92; refine hk.mono ?_; rintro e w' ⟨rfl, hb2⟩)
        try rw [Exit.noGoto_ret]
        go_returns
        exact ⟨by rw [hr.out]; try rfl, hb.trans hb2⟩
      | false =>
        rw [hP] at hk
        go_wp2_with (go_at_call 92; refine hk.mono ?_; rintro e w' ⟨rfl, hb2⟩)
        refine ⟨⟨i + 1, by simp, by omega, fun j y hj hy => ?_, hb.trans hb2⟩, by simp [intOf]; omega⟩
        by_cases hji : j = i
        · subst hji; rw [hx.out] at hy; cases hy; exact hP
        · exact hpre.out j y (by omega) hy
    · have d : decide ((i : Int) < l.length) = false := by simp; omega
      have hr : Hid (idxM P l = -1) := idx_none fun x hx => by
        obtain ⟨j, hj⟩ := List.getElem?_of_mem hx
        exact hpre.out j x (by have := (List.getElem?_eq_some_iff.1 hj).1; omega) hj
      go_wp2
      go_returns
      exact ⟨by rw [hr.out]; try rfl, hb⟩
theorem first_92 (q0 : Value) (P : Fd → Bool) (p : Option Addr) (c : Nat) (l : List Fd) (w : World) (hl : Flds w p l) (hc : ∀ W, Bl w W → ∀ x ∈ l, Calls Try.prog 92 #[x.v, q0] W fun e w' => e = .returned (.bool (P x)) ∧ Bl W w') :
    Calls Try.prog 54 #[.slice p l.length c, .func (.func 92) #[] #[q0]] w fun e w' => e = .returned (.tuple #[.int .i64 (firstI P l), .bool (l.any P)]) ∧ Bl w w' := by
  have k1 := idx_92 q0 P p c l w hl hc
  rcases idx_case P l with ⟨h1, h2⟩ | ⟨i, h1, hi, h2⟩
  · have e1 : firstI P l = 0 := by rw [firstI, h2]; rfl
    rw [e1, h2]
    rw [h1] at k1
    clear h1 h2 e1
    go_enter Try.func54, Try.ntmps54
    go_wp2_with (go_at_call 83; refine k1.mono ?_; rintro e w' ⟨rfl, hb⟩)
    go_returns
    exact ⟨rfl, hb⟩
  · have e1 : firstI P l = i := by rw [firstI, h2, if_pos rfl, h1]
    rw [e1, h2]
    rw [h1] at k1
    clear h1 h2 e1
    have d : decide ((0 : Int) ≤ i) = true := by simp
    go_enter Try.func54, Try.ntmps54
    go_wp2_with (go_at_call 83; refine k1.mono ?_; rintro e w' ⟨rfl, hb⟩)
    go_returns
    exact ⟨rfl, hb⟩

set_option maxHeartbeats 1000000 in
theorem idx_50 (q0 : Value) (P : Ty → Bool) (p : Option Addr) (c : Nat) (l : List Ty) (w : World) (hl : Tys w p l) (hc : ∀ W, Bl w W → ∀ x ∈ l, Calls Try.prog 50 #[x.v, q0] W fun e w' => e = .returned (.bool (P x)) ∧ Bl W w') :
    Calls Try.prog 81 #[.slice p l.length c, .func (.func 50) #[] #[q0]] w fun e w' => e = .returned (.int .i64 (idxM P l)) ∧ Bl w w' := by
  have hlen := hl.len
  unfold maxLen at hlen
  go_enter Try.func81, Try.ntmps81
  go_wp2
  go_loopw [8] (fun n wr => ∃ i : Nat, n = .int .i64 i ∧ i ≤ l.length ∧ (∀ j y, j < i → l[j]? = some y → P y = false) ∧ Bl w wr) (fun n _ => l.length - (intOf n).toNat)
  case atStart => exact ⟨0, rfl, by omega, by intro j y h; omega, Bl.refl w⟩
  case round =>
    obtain ⟨i, rfl, hi, hpre, hb⟩ := hrel
    replace hpre : Hid _ := hpre
    by_cases h : i < l.length
    · have d : decide ((i : Int) < l.length) = true := by simp; omega
      obtain ⟨x, hx⟩ : ∃ x, l[i]? = some x := ⟨l[i], List.getElem?_eq_getElem _⟩
      obtain ⟨b, off, rfl, hb1, ⟨c0, c1, c2⟩, hok, _⟩ := (hl.gr hb).get hx
      have hk := hc _ hb x (List.mem_of_getElem? hx)
      replace hx : Hid (l[i]? = some x) := hx
      have e9 : IntKind.i64.wrap ((i : Int) + 1) = (i : Int) + 1 := IntWalk.i64_in _ (by omega)
      cases hP : P x with
      | true =>
        rw [hP] at hk
        have hr : Hid (idxM P l = i) := idx_some hx.out hP hpre.out
        go_wp2_with (go_at_call 50; refine hk.mono ?_; rintro e w' ⟨rfl, hb2⟩)
        try rw [Exit.noGoto_ret]
        go_returns
        exact ⟨by rw [hr.out]; try rfl, hb.trans hb2⟩
      | false =>
        rw [hP] at hk
        go_wp2_with (go_at_call 50; refine hk.mono ?_; rintro e w' ⟨rfl, hb2⟩)
        refine ⟨⟨i + 1, by simp, by omega, fun j y hj hy => ?_, hb.trans hb2⟩, by simp [intOf]; omega⟩
        by_cases hji : j = i
        · subst hji; rw [hx.out] at hy; cases hy; exact hP
        · exact hpre.out j y (by omega) hy
    · have d : decide ((i : Int) < l.length) = false := by simp; omega
      have hr : Hid (idxM P l = -1) := idx_none fun x hx => by
        obtain ⟨j, hj⟩ := List.getElem?_of_mem hx
        exact hpre.out j x (by have := (List.getElem?_eq_some_iff.1 hj).1; omega) hj
      go_wp2
      go_returns
      exact ⟨by rw [hr.out]; try rfl, hb⟩
theorem first_50 (q0 : Value) (P : Ty → Bool) (p : Option Addr) (c : Nat) (l : List Ty) (w : World) (hl : Tys w p l) (hc : ∀ W, Bl w W → ∀ x ∈ l, Calls Try.prog 50 #[x.v, q0] W fun e w' => e = .returned (.bool (P x)) ∧ Bl W w') :
    Calls Try.prog 49 #[.slice p l.length c, .func (.func 50) #[] #[q0]] w fun e w' => e = .returned (.tuple #[.int .i64 (firstI P l), .bool (l.any P)]) ∧ Bl w w' := by
  have k1 := idx_50 q0 P p c l w hl hc
  rcases idx_case P l with ⟨h1, h2⟩ | ⟨i, h1, hi, h2⟩
  · have e1 : firstI P l = 0 := by rw [firstI, h2]; rfl
    rw [e1, h2]
    rw [h1] at k1
    clear h1 h2 e1
    go_enter Try.func49, Try.ntmps49
    go_wp2_with (go_at_call 81; refine k1.mono ?_; rintro e w' ⟨rfl, hb⟩)
    go_returns
    exact ⟨rfl, hb⟩
  · have e1 : firstI P l = i := by rw [firstI, h2, if_pos rfl, h1]
    rw [e1, h2]
    rw [h1] at k1
    clear h1 h2 e1
    have d : decide ((0 : Int) ≤ i) = true := by simp
    go_enter Try.func49, Try.ntmps49
    go_wp2_with (go_at_call 81; refine k1.mono ?_; rintro e w' ⟨rfl, hb⟩)
    go_returns
    exact ⟨rfl, hb⟩
end Go.Proofs.Ytmcjmdoeafhjpaa
