/- Towards the statements of package types (layer 10): the document's small functions. -/
import Derived.Test.YtmcjmdoeafhjpaaTY
namespace Go.Proofs.Ytmcjmdoeafhjpaa
open Go.ChangeShapes Go.WideShapes Go.ChangeAt Go.RowKit
set_option linter.unusedVariables false
set_option linter.unusedSimpArgs false
set_option maxRecDepth 20000

theorem rof_any' (p : Option Addr) (c : Nat) (L : List Ty) (n : ByteArray) (w : World) (hL : Tys w p L) : Calls Try.prog 75 #[.slice p L.length c, .string n] w fun e w' => e = .returned (.tuple #[.int .i64 (firstI (fun t => t.n.toList == n.toList) L), .bool (L.any fun t => t.n.toList == n.toList)]) ∧ w' = w := by
  have hlen := hL.len
  unfold maxLen at hlen
  generalize hP : (fun t : Ty => t.n.toList == n.toList) = P
  have hPt : ∀ t : Ty, (t.n.toList == n.toList) = P t := fun t => by rw [← hP]
  clear hP
  go_enter Try.func75, Try.ntmps75
  go_wp2
  go_loopw [6] (fun v wr => ∃ i : Nat, v = .int .i64 i ∧ i ≤ L.length ∧ (∀ j y, j < i → L[j]? = some y → P y = false) ∧ wr = w) (fun v _ => L.length - (intOf v).toNat)
  case atStart => exact ⟨0, rfl, by omega, by intro j y h; omega, rfl⟩
  case round =>
    obtain ⟨i, rfl, hi, hpre, hw⟩ := hrel
    replace hpre : Hid _ := hpre
    rw [hw]; clear hw
    by_cases h : i < L.length
    · have d : decide ((i : Int) < L.length) = true := by simp; omega
      obtain ⟨x, hx⟩ : ∃ x, L[i]? = some x := ⟨L[i], List.getElem?_eq_getElem _⟩
      obtain ⟨b, off, rfl, hb1, ⟨c0, c1, c2⟩, hok, _⟩ := hL.get hx
      replace hx : Hid (L[i]? = some x) := hx
      have e9 : IntKind.i64.wrap ((i : Int) + 1) = (i : Int) + 1 := IntWalk.i64_in _ (by omega)
      have hq := hPt x
      clear hPt
      cases hP : P x with
      | true =>
        rw [hP] at hq
        have hr : Hid (firstI P L = i ∧ L.any P = true) := by
          have h1 : idxM P L = i := idx_some hx.out hP hpre.out
          have h2 : L.any P = true := List.any_eq_true.2 ⟨x, List.mem_of_getElem? hx.out, hP⟩
          exact ⟨by rw [firstI, h2, if_pos rfl, h1], h2⟩
        clear hP
        go_wp2
        try rw [Exit.noGoto_ret]
        go_returns
        exact ⟨by rw [hr.out.1, hr.out.2]; try rfl, rfl⟩
      | false =>
        rw [hP] at hq
        go_wp2
        refine ⟨⟨i + 1, by simp, by omega, fun j y hj hy => ?_, by trivial⟩, by simp [intOf]; omega⟩
        by_cases hji : j = i
        · subst hji; rw [hx.out] at hy; cases hy; exact hP
        · exact hpre.out j y (by omega) hy
    · have d : decide ((i : Int) < L.length) = false := by simp; omega
      have hr : Hid (firstI P L = 0 ∧ L.any P = false) := by
        have h2 : L.any P = false := by
          rw [List.any_eq_false]
          intro x hx
          obtain ⟨j, hj⟩ := List.getElem?_of_mem hx
          rw [hpre.out j x (by have := (List.getElem?_eq_some_iff.1 hj).1; omega) hj]; decide
        exact ⟨by rw [firstI, h2]; rfl, h2⟩
      go_wp2
      go_returns
      exact ⟨by rw [hr.out.1, hr.out.2]; try rfl, rfl⟩
set_option maxHeartbeats 2000000 in
theorem rhas_any (t : Ty) (k : Int) (w : World) (hf : Flds w t.p t.fs) : Calls Try.prog 77 #[.agg #[.string t.n, .int .i64 t.s, .slice t.p t.fs.length t.c], .int .u8 k] w fun e w' => e = .returned (.tuple #[.int .i64 (firstI (fun x => x.k == k) t.fs), .bool (t.fs.any fun x => x.k == k)]) ∧ Bl w w' := by
  have hlen := hf.len
  unfold maxLen at hlen
  have hb0 : Bl w (w.alloc (.cells t.cs 42)) := (Bl.refl w).alloc _
  have hX := heap_new w t.cs 42
  have hpp : t.fs = [] ∨ ∃ b5 off5, t.p = some ⟨b5, off5, none⟩ := by
    rcases hf.at' with h | ⟨b5, off5, h, _⟩
    · exact .inl h
    · exact .inr ⟨b5, off5, h⟩
  obtain ⟨tn, ts, tp, tc, tfs⟩ := t
  dsimp only [Ty.cs] at *
  generalize hP : (fun x : Fd => x.k == k) = P
  have hPt : ∀ x : Fd, (x.k == k) = P x := fun x => by rw [← hP]
  clear hP
  generalize hWa : (w.alloc (.cells #[.string tn, .int .i64 ts, .slice tp tfs.length tc] 42)) = Wa at hb0 hX
  rcases hpp with hnil | ⟨b5, off5, rfl⟩
  · replace hnil : Hid (tfs = []) := hnil
    go_enter Try.func77, Try.ntmps77
    go_wp2
    try rw [hWa]
    clear hWa
    go_loopw [6] (fun v wr => ∃ i : Nat, v = .int .i64 i ∧ i ≤ tfs.length ∧ (∀ j y, j < i → tfs[j]? = some y → P y = false) ∧ wr = Wa) (fun v _ => tfs.length - (intOf v).toNat)
    case atStart => exact ⟨0, rfl, by omega, by intro j y h; omega, rfl⟩
    case round =>
      obtain ⟨i, rfl, hi, hpre, hw⟩ := hrel
      replace hpre : Hid _ := hpre
      rw [hw]; clear hw
      have s2 : Wa.cell? ⟨w.heap.size, 2, none⟩ = some (.slice tp tfs.length tc) := by rw [cell_at hX]; rfl
      by_cases h : i < tfs.length
      · exact absurd h (by rw [hnil.out]; simp)
      · have d : decide ((i : Int) < tfs.length) = false := by simp; omega
        have hr : Hid (firstI P tfs = 0 ∧ tfs.any P = false) := by
          have h2 : tfs.any P = false := by
            rw [List.any_eq_false]
            intro x hx
            obtain ⟨j, hj⟩ := List.getElem?_of_mem hx
            rw [hpre.out j x (by have := (List.getElem?_eq_some_iff.1 hj).1; omega) hj]; decide
          exact ⟨by rw [firstI, h2]; rfl, h2⟩
        go_wp2
        go_returns
        exact ⟨by rw [hr.out.1, hr.out.2]; try rfl, hb0⟩
  · go_enter Try.func77, Try.ntmps77
    go_wp2
    try rw [hWa]
    clear hWa
    go_loopw [6] (fun v wr => ∃ i : Nat, v = .int .i64 i ∧ i ≤ tfs.length ∧ (∀ j y, j < i → tfs[j]? = some y → P y = false) ∧ wr = Wa) (fun v _ => tfs.length - (intOf v).toNat)
    case atStart => exact ⟨0, rfl, by omega, by intro j y h; omega, rfl⟩
    case round =>
      obtain ⟨i, rfl, hi, hpre, hw⟩ := hrel
      replace hpre : Hid _ := hpre
      rw [hw]; clear hw
      have s2 : Wa.cell? ⟨w.heap.size, 2, none⟩ = some (.slice (some ⟨b5, off5, none⟩) tfs.length tc) := by rw [cell_at hX]; rfl
      by_cases h : i < tfs.length
      · have d : decide ((i : Int) < tfs.length) = true := by simp; omega
        obtain ⟨x, hx⟩ : ∃ x, tfs[i]? = some x := ⟨tfs[i], List.getElem?_eq_getElem _⟩
        obtain ⟨b6, off6, hp6, hb6, ⟨z0, z1, z2, z3, z4⟩, hxok, _⟩ := (hf.gr hb0).get hx
        cases hp6
        replace hx : Hid (tfs[i]? = some x) := hx
        have e9 : IntKind.i64.wrap ((i : Int) + 1) = (i : Int) + 1 := IntWalk.i64_in _ (by omega)
        have hq := hPt x
        clear hPt
        cases hP : P x with
        | true =>
          rw [hP] at hq
          have hr : Hid (firstI P tfs = i ∧ tfs.any P = true) := by
            have h1 : idxM P tfs = i := idx_some hx.out hP hpre.out
            have h2 : tfs.any P = true := List.any_eq_true.2 ⟨x, List.mem_of_getElem? hx.out, hP⟩
            exact ⟨by rw [firstI, h2, if_pos rfl, h1], h2⟩
          clear hP
          go_wp2
          try rw [Exit.noGoto_ret]
          go_returns
          exact ⟨by rw [hr.out.1, hr.out.2]; try rfl, hb0⟩
        | false =>
          rw [hP] at hq
          have hnx : Hid (∀ j y, j < i + 1 → tfs[j]? = some y → P y = false) := fun j y hj hy => by
            by_cases hji : j = i
            · subst hji; rw [hx.out] at hy; cases hy; exact hP
            · exact hpre.out j y (by omega) hy
          clear hP
          go_wp2
          exact ⟨⟨i + 1, by simp, by omega, hnx.out, by trivial⟩, by simp [intOf]; omega⟩
      · have d : decide ((i : Int) < tfs.length) = false := by simp; omega
        have hr : Hid (firstI P tfs = 0 ∧ tfs.any P = false) := by
          have h2 : tfs.any P = false := by
            rw [List.any_eq_false]
            intro x hx
            obtain ⟨j, hj⟩ := List.getElem?_of_mem hx
            rw [hpre.out j x (by have := (List.getElem?_eq_some_iff.1 hj).1; omega) hj]; decide
          exact ⟨by rw [firstI, h2]; rfl, h2⟩
        go_wp2
        go_returns
        exact ⟨by rw [hr.out.1, hr.out.2]; try rfl, hb0⟩
set_option maxHeartbeats 2000000 in
theorem rsome_any (t : Ty) (a b c : Int) (w : World) (hf : Flds w t.p t.fs) : Calls Try.prog 80 #[.agg #[.string t.n, .int .i64 t.s, .slice t.p t.fs.length t.c], .int .u8 a, .int .u8 b, .int .u8 c] w fun e w' => e = .returned (.bool (oneM [a, b, c] t.fs)) ∧ Bl w w' := by
  have hlen := hf.len
  unfold maxLen at hlen
  have hb0 : Bl w (w.alloc (.cells t.cs 42)) := (Bl.refl w).alloc _
  have hX := heap_new w t.cs 42
  have hpp : t.fs = [] ∨ ∃ b5 off5, t.p = some ⟨b5, off5, none⟩ := by
    rcases hf.at' with h | ⟨b5, off5, h, _⟩
    · exact .inl h
    · exact .inr ⟨b5, off5, h⟩
  obtain ⟨tn, ts, tp, tc, tfs⟩ := t
  dsimp only [Ty.cs] at *
  unfold oneM
  generalize hP : (fun x : Fd => [a, b, c].any fun y => x.k == y) = P
  have hPt : ∀ x : Fd, ((x.k == a) || ((x.k == b) || (x.k == c))) = P x := fun x => by rw [← hP]; simp
  clear hP
  generalize hWa : (w.alloc (.cells #[.string tn, .int .i64 ts, .slice tp tfs.length tc] 42)) = Wa at hb0 hX
  rcases hpp with hnil | ⟨b5, off5, rfl⟩
  · replace hnil : Hid (tfs = []) := hnil
    go_enter Try.func80, Try.ntmps80
    go_wp2
    try rw [hWa]
    clear hWa
    go_loopw [9] (fun v wr => ∃ i : Nat, v = .int .i64 i ∧ i ≤ tfs.length ∧ (∀ j y, j < i → tfs[j]? = some y → P y = false) ∧ wr = Wa) (fun v _ => tfs.length - (intOf v).toNat)
    case atStart => exact ⟨0, rfl, by omega, by intro j y h; omega, rfl⟩
    case round =>
      obtain ⟨i, rfl, hi, hpre, hw⟩ := hrel
      replace hpre : Hid _ := hpre
      rw [hw]; clear hw
      have s2 : Wa.cell? ⟨w.heap.size, 2, none⟩ = some (.slice tp tfs.length tc) := by rw [cell_at hX]; rfl
      by_cases h : i < tfs.length
      · exact absurd h (by rw [hnil.out]; simp)
      · have d : decide ((i : Int) < tfs.length) = false := by simp; omega
        have hr : Hid (firstI P tfs = 0 ∧ tfs.any P = false) := by
          have h2 : tfs.any P = false := by
            rw [List.any_eq_false]
            intro x hx
            obtain ⟨j, hj⟩ := List.getElem?_of_mem hx
            rw [hpre.out j x (by have := (List.getElem?_eq_some_iff.1 hj).1; omega) hj]; decide
          exact ⟨by rw [firstI, h2]; rfl, h2⟩
        go_wp2
        go_returns
        exact ⟨by rw [hr.out.2]; try rfl, hb0⟩
  · go_enter Try.func80, Try.ntmps80
    go_wp2
    try rw [hWa]
    clear hWa
    go_loopw [9] (fun v wr => ∃ i : Nat, v = .int .i64 i ∧ i ≤ tfs.length ∧ (∀ j y, j < i → tfs[j]? = some y → P y = false) ∧ wr = Wa) (fun v _ => tfs.length - (intOf v).toNat)
    case atStart => exact ⟨0, rfl, by omega, by intro j y h; omega, rfl⟩
    case round =>
      obtain ⟨i, rfl, hi, hpre, hw⟩ := hrel
      replace hpre : Hid _ := hpre
      rw [hw]; clear hw
      have s2 : Wa.cell? ⟨w.heap.size, 2, none⟩ = some (.slice (some ⟨b5, off5, none⟩) tfs.length tc) := by rw [cell_at hX]; rfl
      by_cases h : i < tfs.length
      · have d : decide ((i : Int) < tfs.length) = true := by simp; omega
        obtain ⟨x, hx⟩ : ∃ x, tfs[i]? = some x := ⟨tfs[i], List.getElem?_eq_getElem _⟩
        obtain ⟨b6, off6, hp6, hb6, ⟨z0, z1, z2, z3, z4⟩, hxok, _⟩ := (hf.gr hb0).get hx
        cases hp6
        replace hx : Hid (tfs[i]? = some x) := hx
        have e9 : IntKind.i64.wrap ((i : Int) + 1) = (i : Int) + 1 := IntWalk.i64_in _ (by omega)
        have hq := hPt x
        clear hPt
        cases hP : P x with
        | true =>
          rw [hP] at hq
          have hr : Hid (firstI P tfs = i ∧ tfs.any P = true) := by
            have h1 : idxM P tfs = i := idx_some hx.out hP hpre.out
            have h2 : tfs.any P = true := List.any_eq_true.2 ⟨x, List.mem_of_getElem? hx.out, hP⟩
            exact ⟨by rw [firstI, h2, if_pos rfl, h1], h2⟩
          clear hP
          cases qa : (x.k == a) with
          | true =>
            go_wp2
            try rw [Exit.noGoto_ret]
            go_returns
            exact ⟨by rw [hr.out.2]; try rfl, hb0⟩
          | false =>
          cases qb : (x.k == b) with
          | true =>
            go_wp2
            try rw [Exit.noGoto_ret]
            go_returns
            exact ⟨by rw [hr.out.2]; try rfl, hb0⟩
          | false =>
          have qc : (x.k == c) = true := by rw [qa, qb] at hq; simpa using hq
          go_wp2
          try rw [Exit.noGoto_ret]
          go_returns
          exact ⟨by rw [hr.out.2]; try rfl, hb0⟩
        | false =>
          rw [hP] at hq
          have hnx : Hid (∀ j y, j < i + 1 → tfs[j]? = some y → P y = false) := fun j y hj hy => by
            by_cases hji : j = i
            · subst hji; rw [hx.out] at hy; cases hy; exact hP
            · exact hpre.out j y (by omega) hy
          clear hP
          have qa : (x.k == a) = false := by cases q : (x.k == a) with | true => rw [q] at hq; simp at hq | false => rfl
          have qb : (x.k == b) = false := by cases q : (x.k == b) with | true => rw [q] at hq; simp at hq | false => rfl
          have qc : (x.k == c) = false := by cases q : (x.k == c) with | true => rw [q] at hq; simp at hq | false => rfl
          go_wp2
          exact ⟨⟨i + 1, by simp, by omega, hnx.out, by trivial⟩, by simp [intOf]; omega⟩
      · have d : decide ((i : Int) < tfs.length) = false := by simp; omega
        have hr : Hid (firstI P tfs = 0 ∧ tfs.any P = false) := by
          have h2 : tfs.any P = false := by
            rw [List.any_eq_false]
            intro x hx
            obtain ⟨j, hj⟩ := List.getElem?_of_mem hx
            rw [hpre.out j x (by have := (List.getElem?_eq_some_iff.1 hj).1; omega) hj]; decide
          exact ⟨by rw [firstI, h2]; rfl, h2⟩
        go_wp2
        go_returns
        exact ⟨by rw [hr.out.2]; try rfl, hb0⟩
theorem robj_any (t : Ty) (w : World) (hf : Flds w t.p t.fs) : Calls Try.prog 78 #[.agg #[.string t.n, .int .i64 t.s, .slice t.p t.fs.length t.c]] w fun e w' => e = .returned (.bool (objM t.fs)) ∧ Bl w w' := by
  have hb0 : Bl w (w.alloc (.cells t.cs 42)) := (Bl.refl w).alloc _
  have k1 := rsome_any t 2 4 7 _ (hf.gr hb0)
  go_enter Try.func78, Try.ntmps78
  go_wp2_with (go_at_call 80; refine k1.mono ?_; rintro e w' ⟨rfl, hb⟩)
  go_returns
  exact ⟨rfl, hb0.trans hb⟩
theorem rval_any (t : Ty) (w : World) (hf : Flds w t.p t.fs) : Calls Try.prog 79 #[.agg #[.string t.n, .int .i64 t.s, .slice t.p t.fs.length t.c]] w fun e w' => e = .returned (.bool (valM t.fs)) ∧ Bl w w' := by
  have hb0 : Bl w (w.alloc (.cells t.cs 42)) := (Bl.refl w).alloc _
  have k1 := rsome_any t 3 5 6 _ (hf.gr hb0)
  go_enter Try.func79, Try.ntmps79
  go_wp2_with (go_at_call 80; refine k1.mono ?_; rintro e w' ⟨rfl, hb⟩)
  go_returns
  exact ⟨rfl, hb0.trans hb⟩
end Go.Proofs.Ytmcjmdoeafhjpaa
