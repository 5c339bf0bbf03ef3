/- Towards the statements of package types (layer 10): the document's one. -/
import Derived.Test.YtmcjmdoeafhjpaaRC
namespace Go.Proofs.Ytmcjmdoeafhjpaa
open Go.ChangeShapes Go.WideShapes Go.ChangeAt Go.RowKit
set_option linter.unusedVariables false
set_option linter.unusedSimpArgs false
set_option maxRecDepth 20000

theorem first_take {L : List Ty} {i : Nat} {t : Ty} {P : Ty → Bool} (hx : L[i]? = some t) (hp : P t = true) : (((L.take i).any P = true) ∧ firstI P L < i) ∨ ((L.take i).any P = false ∧ firstI P L = i) := by
  have hany : L.any P = true := List.any_eq_true.2 ⟨t, List.mem_of_getElem? hx, hp⟩
  cases h : (L.take i).any P with
  | true =>
    left
    refine ⟨rfl, ?_⟩
    rw [firstI, hany, if_pos rfl, idxM]
    obtain ⟨y, hy, hpy⟩ := List.any_eq_true.1 h
    obtain ⟨j, hj⟩ := List.getElem?_of_mem hy
    rw [List.getElem?_take] at hj
    split at hj
    · rename_i hji
      cases hf : L.findIdx? P with
      | none =>
        rw [List.findIdx?_eq_none_iff] at hf
        have := hf y (List.mem_of_getElem? hj)
        rw [hpy] at this; cases this
      | some k =>
        obtain ⟨hk, hpk, hlt⟩ := List.findIdx?_eq_some_iff_getElem.1 hf
        dsimp only
        by_cases hkj : k ≤ j
        · omega
        · have := hlt j (by omega)
          rw [(List.getElem?_eq_some_iff.1 hj).2] at this
          rw [hpy] at this; simp at this
    · cases hj
  | false =>
    right
    refine ⟨rfl, ?_⟩
    rw [firstI, hany, if_pos rfl]
    refine idx_some hx hp fun j y hj hy => ?_
    rw [List.any_eq_false] at h
    have := h y (List.mem_of_getElem? (i := j) (by rw [List.getElem?_take, if_pos hj]; exact hy))
    simpa using this
theorem one_dup (fs : List Fd) : oneM [2, 4, 4] fs = oneM [2, 4] fs := by
  unfold oneM
  congr 1
  funext x
  simp
theorem one_seven (fs : List Fd) : (fs.any fun x => x.k == 7) = oneM [7] fs := by
  unfold oneM
  congr 1
  funext x
  simp
theorem box_cells {W V : World} {B : Nat} {n : ByteArray} {s : Int} {v : Value} (hb : Bl W V) (hT : W.heap[B]? = some (.cells #[.string n, .int .i64 s, v] 42 (0, 0))) : V.cell? ⟨B, 0, none⟩ = some (.string n) ∧ V.cell? ⟨B, 1, none⟩ = some (.int .i64 s) ∧ V.cell? ⟨B, 2, none⟩ = some v := by
  have h := it_keep (w := W) hT hb
  exact ⟨by rw [cell_at h]; rfl, by rw [cell_at h]; rfl, by rw [cell_at h]; rfl⟩
set_option maxHeartbeats 8000000 in
theorem rone_any (p : Option Addr) (c : Nat) (L : List Ty) (i : Nat) (t : Ty) (hx : L[i]? = some t) (w : World) (hL : Tys w p L) (hfit : Fit L) :
    Calls Try.prog 47 #[.slice p L.length c, .int .i64 i] w fun e w' => e = .returned (.tuple #[.int .i64 (typeM L i t).1, .int .i64 (typeM L i t).2]) ∧ Bl w w' := by
  have hfi := hfit t (List.mem_of_getElem? hx)
  have hlen := hL.len
  unfold maxLen at hlen
  have hL0 := hL
  obtain ⟨b, off, rfl, hb1, ⟨c0, c1, c2⟩, hok, hil⟩ := hL.get hx
  have d1 : decide ((i : Int) < (L.length : Int)) = true := by simp; omega
  have hfl := hok.f.len
  unfold maxLen at hfl
  have hs64 := hok.s
  have hft := first_take (P := fun u : Ty => u.n.toList == t.n.toList) hx (by simp)
  replace hx : Hid (L[i]? = some t) := hx
  have hb0 : Bl w (w.alloc (.cells t.cs 42)) := (Bl.refl w).alloc _
  have hT0 := heap_new w t.cs 42
  dsimp only [Ty.cs] at hT0 hb0
  generalize hans : typeM L i t = ans
  replace hans : Hid (typeM L i t = ans) := hans
  have kmay := fun W => rmay_any t.n hfi.1 W
  by_cases h32 : 32 ≤ i
  · have d32 : decide ((32 : Int) ≤ i) = true := by simp; omega
    have hr : Hid (ans = (0, 4)) := by
      show _ = _
      rw [← hans.out, typeM, structM, if_pos h32]; rfl
    go_enter Try.func47, Try.ntmps47
    go_wp2
    go_returns
    exact ⟨by rw [hr.out]; try rfl, hb0⟩
  have d32 : decide ((32 : Int) ≤ i) = false := by simp; omega
  cases hq1 : mayM (bt t.n) with
  | false =>
    rw [hq1] at kmay
    have hr : Hid (ans = (0, 100)) := by
      show _ = _
      rw [← hans.out, typeM, structM, if_neg h32, if_pos hq1]; rfl
    clear hq1
    go_enter Try.func47, Try.ntmps47
    go_wp2_with (go_at_call 19; refine (kmay _).mono ?_; rintro e w3 ⟨rfl, hb3⟩)
    go_returns
    exact ⟨by rw [hr.out]; try rfl, hb0.trans hb3⟩
  | true =>
  rw [hq1] at kmay
  have hq1' : ¬ mayM (bt t.n) = false := by rw [hq1]; decide
  replace hq1' : Hid (¬ mayM (bt t.n) = false) := hq1'
  clear hq1
  go_enter Try.func47, Try.ntmps47
  go_upto_region 6 with (go_at_call 19; refine (kmay _).mono ?_; rintro e w3 ⟨rfl, hb3⟩)
  have hT := it_keep (w := w) hT0 hb3
  have hbW := hb0.trans hb3
  clear c0 c1 c2 hb0 hT0 kmay hb3
  generalize w3 = W at hT hbW ⊢
  generalize w.heap.size = B at hT ⊢
  have s0 : W.cell? ⟨B, 0, none⟩ = some (.string t.n) := by rw [cell_at hT]; rfl
  have s1 : W.cell? ⟨B, 1, none⟩ = some (.int .i64 t.s) := by rw [cell_at hT]; rfl
  have s2 : W.cell? ⟨B, 2, none⟩ = some (.slice t.p t.fs.length t.c) := by rw [cell_at hT]; rfl
  have kof := rof_any' (some ⟨b, off, none⟩) c L t.n W (hL0.gr hbW)
  generalize L.any _ = an at kof
  rcases hft with ⟨hdup, hlt⟩ | ⟨hdup, heq⟩
  · have hr : Hid (ans = (0, 104)) := by
      show _ = _
      rw [← hans.out, typeM, structM, if_neg h32, if_neg hq1'.out, if_pos hdup]; rfl
    generalize firstI _ _ = fi at kof hlt
    have d3 : decide (fi < (i : Int)) = true := by simpa using hlt
    clear hdup
    go_wp2_with (go_at_call 75; refine kof.mono ?_; rintro e w4 ⟨rfl, hw⟩; rw [hw]; clear hw)
    go_returns
    exact ⟨by rw [hr.out]; try rfl, hbW⟩
  rw [heq] at kof
  have d3 : decide ((i : Int) < (i : Int)) = false := by simp
  replace hdup : Hid (¬ (L.take i).any (fun u => u.n.toList == t.n.toList) = true) := by show ¬ _; rw [hdup]; decide
  clear heq
  by_cases hsz : t.s < 8 ∨ 128 < t.s ∨ t.s.tmod 8 ≠ 0
  · have hr : Hid (ans = (0, 101)) := by
      show _ = _
      rw [← hans.out, typeM, structM, if_neg h32, if_neg hq1'.out, if_neg hdup.out, if_pos hsz]; rfl
    cases q1 : (t.s.tmod 8 != 0) with
    | true =>
      clear hsz
      go_wp2_with (go_at_call 75; refine kof.mono ?_; rintro e w4 ⟨rfl, hw⟩; rw [hw]; clear hw)
      go_returns
      exact ⟨by rw [hr.out]; try rfl, hbW⟩
    | false =>
      by_cases g1 : t.s < 8
      · have q2 : decide (t.s < 8) = true := by simpa using g1
        clear hsz
        go_wp2_with (go_at_call 75; refine kof.mono ?_; rintro e w4 ⟨rfl, hw⟩; rw [hw]; clear hw)
        go_returns
        exact ⟨by rw [hr.out]; try rfl, hbW⟩
      · have q2 : decide (t.s < 8) = false := by simp; omega
        have q1b : (t.s % 8 != 0) = false := by rw [← Int.tmod_eq_emod_of_nonneg (by omega)]; exact q1
        have q3 : decide (128 < t.s) = true := by
          simp
          rcases hsz with h | h | h
          · omega
          · exact h
          · simp at q1; exact absurd q1 h
        clear hsz
        go_wp2_with (go_at_call 75; refine kof.mono ?_; rintro e w4 ⟨rfl, hw⟩; rw [hw]; clear hw)
        go_returns
        exact ⟨by rw [hr.out]; try rfl, hbW⟩
  have hs8 : 8 ≤ t.s ∧ t.s ≤ 128 := by omega
  have q1 : (t.s.tmod 8 != 0) = false := by
    simp
    by_cases h : t.s.tmod 8 = 0
    · exact h
    · exact absurd (.inr (.inr h)) hsz
  have q1b : (t.s % 8 != 0) = false := by rw [← Int.tmod_eq_emod_of_nonneg (by omega)]; exact q1
  have q2 : decide (t.s < 8) = false := by simp; omega
  have q3 : decide (128 < t.s) = false := by simp; omega
  replace hsz : Hid (¬ (t.s < 8 ∨ 128 < t.s ∨ t.s.tmod 8 ≠ 0)) := hsz
  by_cases h8 : 8 < t.fs.length
  · have hr : Hid (ans = (8, 4)) := by
      show _ = _
      rw [← hans.out, typeM, structM, if_neg h32, if_neg hq1'.out, if_neg hdup.out, if_neg hsz.out, if_pos h8]; rfl
    have q4 : decide ((8 : Int) < t.fs.length) = true := by simp; omega
    go_wp2_with (go_at_call 75; refine kof.mono ?_; rintro e w4 ⟨rfl, hw⟩; rw [hw]; clear hw)
    go_returns
    exact ⟨by rw [hr.out]; try rfl, hbW⟩
  have q4 : decide ((8 : Int) < t.fs.length) = false := by simp; omega
  have ha : Hid (ans = match badF t.s t.fs 0 t.fs with | some r => r | none => if mixM t.fs = true then (0, 106) else (0, 0)) := by
    show _ = _
    have hst : structM L i t = (0, 0) := by rw [structM, if_neg h32, if_neg hq1'.out, if_neg hdup.out, if_neg hsz.out, if_neg h8]
    rw [← hans.out, typeM, hst, if_neg (by simp)]
    cases badF t.s t.fs 0 t.fs <;> rfl
  go_wp2_with (go_at_call 75; refine kof.mono ?_; rintro e w4 ⟨rfl, hw⟩; rw [hw]; clear hw)
  clear s0 s1 s2 kof
  go_loopw [9] (fun v wr => ∃ k : Nat, v = .int .i64 k ∧ k ≤ t.fs.length ∧ badF t.s t.fs 0 t.fs = badF t.s t.fs k (t.fs.drop k) ∧ Good (t.fs.take k) ∧ Bl W wr) (fun v _ => t.fs.length - (intOf v).toNat)
  case atStart => exact ⟨0, rfl, by omega, by rw [List.drop_zero], by intro y hy; simp at hy, Bl.refl _⟩
  case round =>
    obtain ⟨k, rfl, hk, hA, hGd, hb⟩ := hrel
    replace hA : Hid (badF t.s t.fs 0 t.fs = badF t.s t.fs k (t.fs.drop k)) := hA
    have hTr := it_keep (w := w) hT hb
    have s0 : wr.cell? ⟨B, 0, none⟩ = some (.string t.n) := by rw [cell_at hTr]; rfl
    have s1 : wr.cell? ⟨B, 1, none⟩ = some (.int .i64 t.s) := by rw [cell_at hTr]; rfl
    have s2 : wr.cell? ⟨B, 2, none⟩ = some (.slice t.p t.fs.length t.c) := by rw [cell_at hTr]; rfl
    by_cases h : k < t.fs.length
    · have d : decide ((k : Int) < t.fs.length) = true := by simp; omega
      obtain ⟨x, hxk⟩ : ∃ x, t.fs[k]? = some x := ⟨t.fs[k], List.getElem?_eq_getElem _⟩
      have kf := rfield_any t k x hxk _ (hok.f.gr (hbW.trans hb)) hs8 (hfi.2 x (List.mem_of_getElem? hxk)) hGd
      have hdr : Hid (t.fs.drop k = x :: t.fs.drop (k + 1)) := drop_get hxk
      have e9 : IntKind.i64.wrap ((k : Int) + 1) = (k : Int) + 1 := IntWalk.i64_in _ (by omega)
      have hGn : fieldX t.s (t.fs.take k) x = 0 → Good (t.fs.take (k + 1)) := fun h0 y hy => by
        rw [List.take_add_one, hxk] at hy
        rcases List.mem_append.1 hy with hy | hy
        · exact hGd y hy
        · simp at hy; subst hy; exact good_of hs8.2 h0
      clear hxk
      by_cases hz : fieldX t.s (t.fs.take k) x ≠ 0
      · have e2 : (fieldX t.s (t.fs.take k) x != 0) = true := by simpa using hz
        have hr : Hid (ans = ((k : Int), fieldX t.s (t.fs.take k) x)) := by
          show ans = _
          rw [ha.out, hA.out, hdr.out, badF, if_pos hz]
        clear hz hGn
        generalize fieldX t.s (t.fs.take k) x = r at kf e2 hr
        go_wp2_with (go_at_call 76; refine kf.mono ?_; rintro e w5 ⟨rfl, hb5⟩)
        try rw [Exit.noGoto_ret]
        go_returns
        exact ⟨by rw [hr.out]; try rfl, hbW.trans (hb.trans hb5)⟩
      · have e2 : (fieldX t.s (t.fs.take k) x != 0) = false := by simpa using hz
        have hA2 : Hid (badF t.s t.fs 0 t.fs = badF t.s t.fs (k + 1) (t.fs.drop (k + 1))) := by
          show _ = _
          rw [hA.out, hdr.out, badF, if_neg hz]
        have hG2 := hGn (by simpa using hz)
        clear hz hGn
        generalize fieldX t.s (t.fs.take k) x = r at kf e2
        go_wp2_with (go_at_call 76; refine kf.mono ?_; rintro e w5 ⟨rfl, hb5⟩)
        exact ⟨⟨k + 1, by simp, by omega, hA2.out, hG2, hb.trans hb5⟩, by simp [intOf]; omega⟩
    · have d : decide ((k : Int) < t.fs.length) = false := by simp; omega
      have hA2 : badF t.s t.fs 0 t.fs = none := by rw [hA.out, List.drop_eq_nil_of_le (by omega), badF]
      have ha2 : Hid (ans = if mixM t.fs = true then (0, 106) else (0, 0)) := by
        show _ = _
        rw [ha.out, hA2]
      have hff := hok.f.gr (hbW.trans hb)
      have kh := fun V (hV : Bl wr V) => rhas_any t 7 V (hff.gr hV)
      rw [one_seven] at kh
      have ko := fun V (hV : Bl wr V) => robj_any t V (hff.gr hV)
      have kv := fun V (hV : Bl wr V) => rval_any t V (hff.gr hV)
      have k3 := fun V (hV : Bl wr V) => rsome_any t 2 4 4 V (hff.gr hV)
      rw [one_dup] at k3
      unfold mixM at ha2
      generalize firstI _ _ = fi at kh
      generalize oneM [7] t.fs = z7 at kh ha2
      generalize objM t.fs = zo at ko ha2
      generalize valM t.fs = zv at kv ha2
      generalize oneM [2, 4] t.fs = z2 at k3 ha2
      have HB := Bl.refl wr
      clear hA2
      cases z7 <;> cases zo <;> cases zv <;> cases z2
      all_goals
        have hr := ha2.out
        simp only [Bool.not_true, Bool.not_false, Bool.and_true, Bool.and_false, Bool.true_and, Bool.false_and, Bool.or_true, Bool.or_false, Bool.true_or, Bool.false_or, if_true, Bool.false_eq_true, if_false] at hr
        replace hr : Hid (ans = _) := hr
        clear ha2
        go_wp2_with first | (go_at_call 77; refine (kh _ HB).mono ?_; rintro e v1 ⟨rfl, hb5⟩; replace HB := HB.trans hb5; clear hb5 s0 s1 s2; obtain ⟨s0, s1, s2⟩ := box_cells (hb.trans HB) hT) | (go_at_call 78; refine (ko _ HB).mono ?_; rintro e v2 ⟨rfl, hb5⟩; replace HB := HB.trans hb5; clear hb5 s0 s1 s2; obtain ⟨s0, s1, s2⟩ := box_cells (hb.trans HB) hT) | (go_at_call 79; refine (kv _ HB).mono ?_; rintro e v3 ⟨rfl, hb5⟩; replace HB := HB.trans hb5; clear hb5 s0 s1 s2; obtain ⟨s0, s1, s2⟩ := box_cells (hb.trans HB) hT) | (go_at_call 80; refine (k3 _ HB).mono ?_; rintro e v4 ⟨rfl, hb5⟩; replace HB := HB.trans hb5; clear hb5)
        go_returns
        exact ⟨by rw [hr.out]; try rfl, hbW.trans (hb.trans HB)⟩
end Go.Proofs.Ytmcjmdoeafhjpaa
