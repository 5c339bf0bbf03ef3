/- Towards the statements of package types (layer 10): the document's holds and Check. -/
import Derived.Test.YtmcjmdoeafhjpaaRD
namespace Go.Proofs.Ytmcjmdoeafhjpaa
open Go.ChangeShapes Go.WideShapes Go.ChangeAt Go.RowKit
set_option linter.unusedVariables false
set_option linter.unusedSimpArgs false
set_option maxRecDepth 20000

set_option maxHeartbeats 8000000 in
theorem rholds_any (p : Option Addr) (c : Nat) (L : List Ty) (x : Fd) (w : World) (hL : Tys w p L) (hx : x.ok) : Calls Try.prog 48 #[.slice p L.length c, .agg #[.string x.n, .int .u8 x.k, .int .i64 x.a, .int .i64 x.o, .int .i64 x.d]] w fun e w' => e = .returned (.bool (holdM L x)) ∧ Bl w w' := by
  have hlen := hL.len
  unfold maxLen at hlen
  have hb0 : Bl w (w.alloc (.cells x.cs 48)) := (Bl.refl w).alloc _
  have hX := heap_new w x.cs 48
  dsimp only [Fd.cs] at hX hb0
  generalize hans : holdM L x = ans
  replace hans : Hid (holdM L x = ans) := hans
  by_cases hk : x.k ≠ 1 ∧ x.k ≠ 2 ∧ x.k ≠ 4
  · have q1 : (x.k != 1) = true := by simpa using hk.1
    have q2 : (x.k != 2) = true := by simpa using hk.2.1
    have q3 : (x.k != 4) = true := by simpa using hk.2.2
    have ha : Hid (ans = ((x.o == 0) && (x.d == 0))) := by
      show _ = _
      rw [← hans.out, holdM, if_neg hk.1, if_neg hk.2.1, if_neg hk.2.2]
    cases d0 : (x.o == 0)
    all_goals
      have hr := ha.out
      rw [d0] at hr
      replace hr : Hid (ans = _) := hr
      clear ha
      go_enter Try.func48, Try.ntmps48
      go_wp2
      go_returns
      exact ⟨by rw [hr.out]; simp, hb0⟩
  have hkk : (x.k = 1 ∨ x.k = 2) ∨ x.k = 4 := by
    by_cases h1 : x.k = 1
    · exact .inl (.inl h1)
    · by_cases h2 : x.k = 2
      · exact .inl (.inr h2)
      · by_cases h4 : x.k = 4
        · exact .inr h4
        · exact absurd ⟨h1, h2, h4⟩ hk
  clear hk
  cases hnth : nthM L x.o with
  | none =>
    have hno := nth_none hnth
    have hr : Hid (ans = false) := by
      show _ = _
      rw [← hans.out, holdM]
      rcases hkk with (h | h) | h
      · rw [if_pos h, isObjM, hnth]; rfl
      · rw [if_neg (by rw [h]; decide), if_pos h, hnth]
      · rw [if_neg (by rw [h]; decide), if_neg (by rw [h]; decide), if_pos h, hnth]
    obtain ⟨xn, xk, xa, xo, xd⟩ := x
    dsimp only at *
    by_cases o0 : xo < 0
    · have p0 : decide (xo < 0) = true := by simpa using o0
      rcases hkk with (rfl | rfl) | rfl
      all_goals
        go_enter Try.func48, Try.ntmps48
        go_wp2
        go_returns
        exact ⟨by rw [hr.out]; try rfl, hb0⟩
    · have p0 : decide (xo < 0) = false := by simp; omega
      have p1 : decide ((L.length : Int) ≤ xo) = true := by simp; omega
      rcases hkk with (rfl | rfl) | rfl
      all_goals
        go_enter Try.func48, Try.ntmps48
        go_wp2
        go_returns
        exact ⟨by rw [hr.out]; try rfl, hb0⟩
  | some t =>
  obtain ⟨h0, h1, ht⟩ := nth_some hnth
  have hobj : holdM L x = (objM t.fs && (if x.k = 1 then (x.d == 0) else if x.k = 2 then isKindM t.fs x.d 3 else isKindM t.fs x.d 5)) := by
    rw [holdM]
    rcases hkk with (h | h) | h <;> simp [h, hnth, isObjM]
  obtain ⟨xn, xk, xa, xo, xd⟩ := x
  dsimp only at *
  obtain ⟨j, rfl⟩ := Int.eq_ofNat_of_zero_le h0
  have p0 : decide ((j : Int) < 0) = false := by simp
  have p1 : decide ((L.length : Int) ≤ (j : Int)) = false := by simp; omega
  have d1 : decide ((j : Int) < (L.length : Int)) = true := by simp; omega
  obtain ⟨b, off, rfl, hb1, hTc, hok, _⟩ := (hL.gr hb0).get (j := j) (by simpa using ht)
  obtain ⟨c0, c1, c2⟩ := hTc
  have hTc : TCell _ _ _ _ := ⟨c0, c1, c2⟩
  have ko := robj_any t _ hok.f
  clear ht hnth
  cases qo : objM t.fs with
  | false =>
    rw [qo] at ko hobj
    have hr : Hid (ans = false) := by show _ = _; rw [← hans.out, hobj]; rfl
    clear hobj
    rcases hkk with (rfl | rfl) | rfl
    all_goals
      go_enter Try.func48, Try.ntmps48
      go_wp2_with (go_at_call 78; refine ko.mono ?_; rintro e w2 ⟨rfl, hb2⟩)
      go_returns
      exact ⟨by rw [hr.out]; try rfl, hb0.trans hb2⟩
  | true =>
  rw [qo] at ko hobj
  rw [Bool.true_and] at hobj
  have fin : ∀ (want : Int), (if want = 3 then xk = 2 else xk = 4) → True := fun _ _ => trivial
  rcases hkk with (rfl | rfl) | rfl
  · have hr : Hid (ans = (xd == 0)) := by show _ = _; rw [← hans.out, hobj]; rfl
    go_enter Try.func48, Try.ntmps48
    go_wp2_with (go_at_call 78; refine ko.mono ?_; rintro e w2 ⟨rfl, hb2⟩; have hX2 := it_keep (w := w) hX hb2; have x1 : w2.cell? ⟨w.heap.size, 1, none⟩ = some (.int .u8 1) := (by rw [cell_at hX2]; rfl); have x4 : w2.cell? ⟨w.heap.size, 4, none⟩ = some (.int .i64 xd) := (by rw [cell_at hX2]; rfl))
    go_returns
    exact ⟨by rw [hr.out]; try rfl, hb0.trans hb2⟩
  · have hr0 : Hid (ans = isKindM t.fs xd 3) := by show _ = _; rw [← hans.out, hobj]; rfl
    go_enter Try.func48, Try.ntmps48
    go_upto_region 10 with (go_at_call 78; refine ko.mono ?_; rintro e w2 ⟨rfl, hb2⟩; have hX2 := it_keep (w := w) hX hb2; have x1 : w2.cell? ⟨w.heap.size, 1, none⟩ = some (.int .u8 2) := (by rw [cell_at hX2]; rfl))
    have x3 : w2.cell? ⟨w.heap.size, 3, none⟩ = some (.int .i64 (j : Int)) := by rw [cell_at hX2]; rfl
    have x4 : w2.cell? ⟨w.heap.size, 4, none⟩ = some (.int .i64 xd) := by rw [cell_at hX2]; rfl
    obtain ⟨y0, y1, y2⟩ := hTc.gr hb1 hb2
    have hff := hok.f.gr hb2
    unfold isKindM at hr0
    cases hnk : nthM t.fs xd with
    | none =>
      rw [hnk] at hr0
      have hno := nth_none hnk
      clear hnk
      by_cases o0 : 0 ≤ xd
      · have p2 : decide (0 ≤ xd) = true := by simpa using o0
        have p3 : decide (xd < (t.fs.length : Int)) = false := by simp; omega
        go_quiet (fail)
        go_wp2
        go_returns
        exact ⟨by rw [hr0.out]; try rfl, hb0.trans (drewN_bl hb2 nq)⟩
      · have p2 : decide (0 ≤ xd) = false := by simpa using o0
        go_quiet (fail)
        go_wp2
        go_returns
        exact ⟨by rw [hr0.out]; try rfl, hb0.trans (drewN_bl hb2 nq)⟩
    | some y =>
      rw [hnk] at hr0
      dsimp only at hr0
      obtain ⟨g0, g1, hy⟩ := nth_some hnk
      clear hnk
      obtain ⟨l, rfl⟩ := Int.eq_ofNat_of_zero_le g0
      have p2 : decide (0 ≤ (l : Int)) = true := by simp
      have p3 : decide ((l : Int) < (t.fs.length : Int)) = true := by simp; omega
      obtain ⟨b7, off7, hp7, hb7, ⟨z0, z1, z2, z3, z4⟩, hyok, _⟩ := hff.get (j := l) (by simpa using hy)
      clear hy
      rw [hp7] at y2
      go_quiet (fail)
      go_wp2
      go_returns
      exact ⟨by rw [hr0.out]; try rfl, hb0.trans (drewN_bl hb2 nq)⟩
  · have hr0 : Hid (ans = isKindM t.fs xd 5) := by show _ = _; rw [← hans.out, hobj]; rfl
    go_enter Try.func48, Try.ntmps48
    go_upto_region 10 with (go_at_call 78; refine ko.mono ?_; rintro e w2 ⟨rfl, hb2⟩; have hX2 := it_keep (w := w) hX hb2; have x1 : w2.cell? ⟨w.heap.size, 1, none⟩ = some (.int .u8 4) := (by rw [cell_at hX2]; rfl))
    have x3 : w2.cell? ⟨w.heap.size, 3, none⟩ = some (.int .i64 (j : Int)) := by rw [cell_at hX2]; rfl
    have x4 : w2.cell? ⟨w.heap.size, 4, none⟩ = some (.int .i64 xd) := by rw [cell_at hX2]; rfl
    obtain ⟨y0, y1, y2⟩ := hTc.gr hb1 hb2
    have hff := hok.f.gr hb2
    unfold isKindM at hr0
    cases hnk : nthM t.fs xd with
    | none =>
      rw [hnk] at hr0
      have hno := nth_none hnk
      clear hnk
      by_cases o0 : 0 ≤ xd
      · have p2 : decide (0 ≤ xd) = true := by simpa using o0
        have p3 : decide (xd < (t.fs.length : Int)) = false := by simp; omega
        go_quiet (fail)
        go_wp2
        go_returns
        exact ⟨by rw [hr0.out]; try rfl, hb0.trans (drewN_bl hb2 nq)⟩
      · have p2 : decide (0 ≤ xd) = false := by simpa using o0
        go_quiet (fail)
        go_wp2
        go_returns
        exact ⟨by rw [hr0.out]; try rfl, hb0.trans (drewN_bl hb2 nq)⟩
    | some y =>
      rw [hnk] at hr0
      dsimp only at hr0
      obtain ⟨g0, g1, hy⟩ := nth_some hnk
      clear hnk
      obtain ⟨l, rfl⟩ := Int.eq_ofNat_of_zero_le g0
      have p2 : decide (0 ≤ (l : Int)) = true := by simp
      have p3 : decide ((l : Int) < (t.fs.length : Int)) = true := by simp; omega
      obtain ⟨b7, off7, hp7, hb7, ⟨z0, z1, z2, z3, z4⟩, hyok, _⟩ := hff.get (j := l) (by simpa using hy)
      clear hy
      rw [hp7] at y2
      go_quiet (fail)
      go_wp2
      go_returns
      exact ⟨by rw [hr0.out]; try rfl, hb0.trans (drewN_bl hb2 nq)⟩
end Go.Proofs.Ytmcjmdoeafhjpaa
