/- Towards the statements of package types (layer 10): what is mixed; what a field holds. -/
import Derived.Test.YtmcjmdoeafhjpaaTC
namespace Go.Proofs.Ytmcjmdoeafhjpaa
open Go.ChangeShapes Go.WideShapes Go.ChangeAt Go.RowKit
set_option linter.unusedVariables false
set_option linter.unusedSimpArgs false
set_option maxRecDepth 20000
def nthM {α : Type} (l : List α) (i : Int) : Option α := if 0 ≤ i then l[i.toNat]? else none
theorem nth_some {α : Type} {l : List α} {i : Int} {x : α} (h : nthM l i = some x) : 0 ≤ i ∧ i < l.length ∧ l[i.toNat]? = some x := by
  unfold nthM at h
  split at h
  · have := (List.getElem?_eq_some_iff.1 h).1
    exact ⟨by assumption, by omega, h⟩
  · cases h
theorem nth_none {α : Type} {l : List α} {i : Int} (h : nthM l i = none) : ¬ (0 ≤ i ∧ i < l.length) := by
  unfold nthM at h
  split at h
  · rw [List.getElem?_eq_none_iff] at h; omega
  · omega
theorem nth_there {α : Type} {l : List α} {i : Int} : ((decide (0 ≤ i)) && (decide (i < l.length))) = (nthM l i).isSome := by
  cases h : nthM l i with
  | none => have := nth_none h; simp; omega
  | some x => have := nth_some h; simp; omega
set_option maxHeartbeats 1000000 in
theorem mixed_any (t : Ty) (w : World) (hf : Flds w t.p t.fs) : Calls Try.prog 72 #[.agg #[.string t.n, .int .i64 t.s, .slice t.p t.fs.length t.c]] w fun e w' => e = .returned (.bool (mixM t.fs)) ∧ Bl w w' := by
  have hT := tcell_new w t
  have hb0 : Bl w (w.alloc (.cells t.cs 42)) := (Bl.refl w).alloc _
  have hs : w.heap.size < (w.alloc (.cells t.cs 42)).heap.size := by rw [size_new]; omega
  have HB := Bl.refl (w.alloc (.cells t.cs 42))
  have hf0 := hf.gr hb0
  have ko := fun W (h : Bl (w.alloc (.cells t.cs 42)) W) => obj_any t W (hf0.gr h)
  have kv := fun W (h : Bl (w.alloc (.cells t.cs 42)) W) => val_any t W (hf0.gr h)
  have k2 := fun W (h : Bl (w.alloc (.cells t.cs 42)) W) => hasOne_any t _ 2 [2, 4] _ (hf0.gr (h.alloc (.cells #[.int .u8 2, .int .u8 4] 5))) (row_new W [2, 4] (by decide) 5)
  have k7 := fun W (h : Bl (w.alloc (.cells t.cs 42)) W) => hasOne_any t _ 1 [7] _ (hf0.gr (h.alloc (.cells #[.int .u8 7] 5))) (row_new W [7] (by decide) 5)
  have F1 : 0 ≤ 0 := Nat.le_refl 0
  unfold mixM
  generalize objM t.fs = q1 at ko ⊢
  generalize valM t.fs = q2 at kv ⊢
  generalize oneM [2, 4] t.fs = q3 at k2 ⊢
  generalize oneM [7] t.fs = q4 at k7 ⊢
  have fin : ∀ {q1 q2 q3 q4 : Bool}, q1 = q1 := rfl
  cases q1 <;> cases q2 <;> cases q3 <;> cases q4
  all_goals
    go_enter Try.func72, Try.ntmps72
    go_wp2_with first | (go_at_call 23; refine (ko _ HB).mono ?_; rintro e w1 ⟨rfl, hb⟩; replace HB := HB.trans hb; clear hb; obtain ⟨z0, z1, z2⟩ := hT.gr hs HB) | (go_at_call 93; refine (kv _ HB).mono ?_; rintro e w2 ⟨rfl, hb⟩; replace HB := HB.trans hb; clear hb; obtain ⟨z0, z1, z2⟩ := hT.gr hs HB) | (go_at_call 56; have q := F1; clear F1 q; refine (k2 _ HB).mono ?_; rintro e w3 ⟨rfl, hb⟩; replace HB := (HB.alloc _).trans hb; clear hb; obtain ⟨z0, z1, z2⟩ := hT.gr hs HB) | (go_at_call 56; refine (k7 _ HB).mono ?_; rintro e w4 ⟨rfl, hb⟩; replace HB := (HB.alloc _).trans hb; clear hb)
    go_returns
    exact ⟨rfl, hb0.trans HB⟩
def isObjM (L : List Ty) (i : Int) : Bool := match nthM L i with
  | some t => objM t.fs
  | none => false
def isKindM (fs : List Fd) (i k : Int) : Bool := match nthM fs i with
  | some x => x.k == k
  | none => false
theorem isObj_any (p : Option Addr) (c : Nat) (L : List Ty) (i : Int) (w : World) (hL : Tys w p L) : Calls Try.prog 73 #[.slice p L.length c, .int .i64 i] w fun e w' => e = .returned (.bool (isObjM L i)) ∧ Bl w w' := by
  have hlen := hL.len
  unfold maxLen at hlen
  unfold isObjM
  cases h : nthM L i with
  | none =>
    have hn := nth_none h
    dsimp only
    by_cases h0 : 0 ≤ i
    · have d0 : decide (0 ≤ i) = true := by simp [h0]
      have d1 : decide (i < (L.length : Int)) = false := by simp; omega
      go_enter Try.func73, Try.ntmps73
      go_wp2
      all_goals go_returns
      all_goals exact ⟨rfl, Bl.refl _⟩
    · have d0 : decide (0 ≤ i) = false := by simp [h0]
      go_enter Try.func73, Try.ntmps73
      go_wp2
      all_goals go_returns
      all_goals exact ⟨rfl, Bl.refl _⟩
  | some t =>
    obtain ⟨h0, h1, hx⟩ := nth_some h
    dsimp only
    obtain ⟨j, rfl⟩ := Int.eq_ofNat_of_zero_le h0
    obtain ⟨b, off, rfl, hb1, ⟨c0, c1, c2⟩, hok, _⟩ := hL.get (j := j) (by simpa using hx)
    have d0 : decide (0 ≤ (j : Int)) = true := by simp
    have d1 : decide ((j : Int) < (L.length : Int)) = true := by simp; omega
    have k1 := obj_any t w hok.f
    clear hx h hL
    go_enter Try.func73, Try.ntmps73
    go_wp2_with (go_at_call 23; refine k1.mono ?_; rintro e w' ⟨rfl, hb⟩)
    all_goals go_returns
    all_goals exact ⟨rfl, hb⟩
theorem isKind_any (t : Ty) (i k : Int) (w : World) (hf : Flds w t.p t.fs) : Calls Try.prog 74 #[.agg #[.string t.n, .int .i64 t.s, .slice t.p t.fs.length t.c], .int .i64 i, .int .u8 k] w fun e w' => e = .returned (.bool (isKindM t.fs i k)) ∧ Bl w w' := by
  have hlen := hf.len
  unfold maxLen at hlen
  unfold isKindM
  have hb0 : Bl w (w.alloc (.cells t.cs 42)) := (Bl.refl w).alloc _
  cases h : nthM t.fs i with
  | none =>
    have hn := nth_none h
    dsimp only
    by_cases h0 : 0 ≤ i
    · have d0 : decide (0 ≤ i) = true := by simp [h0]
      have d1 : decide (i < (t.fs.length : Int)) = false := by simp; omega
      go_enter Try.func74, Try.ntmps74
      go_wp2
      all_goals go_returns
      all_goals exact ⟨rfl, hb0⟩
    · have d0 : decide (0 ≤ i) = false := by simp [h0]
      go_enter Try.func74, Try.ntmps74
      go_wp2
      all_goals go_returns
      all_goals exact ⟨rfl, hb0⟩
  | some x =>
    obtain ⟨h0, h1, hx⟩ := nth_some h
    dsimp only
    obtain ⟨j, rfl⟩ := Int.eq_ofNat_of_zero_le h0
    obtain ⟨b, off, hp, hb1, ⟨c0, c1, c2, c3, c4⟩, hok, _⟩ := (hf.gr hb0).get (j := j) (by simpa using hx)
    have d0 : decide (0 ≤ (j : Int)) = true := by simp
    have d1 : decide ((j : Int) < (t.fs.length : Int)) = true := by simp; omega
    clear hx h hf
    obtain ⟨tn, ts, tp, tc, tfs⟩ := t
    dsimp only at hp d1 h1 hlen ⊢
    subst hp
    go_enter Try.func74, Try.ntmps74
    go_wp2
    all_goals go_returns
    all_goals exact ⟨rfl, hb0⟩
end Go.Proofs.Ytmcjmdoeafhjpaa
