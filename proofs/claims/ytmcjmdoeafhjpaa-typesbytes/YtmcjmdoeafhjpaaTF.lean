/- Towards the statements of package types (layer 10): what is wrong with a field. -/
import Derived.Test.YtmcjmdoeafhjpaaTE
import Derived.Test.YtmcjmdoeafhjpaaNZ
namespace Go.Proofs.Ytmcjmdoeafhjpaa
open Go.ChangeShapes Go.WideShapes Go.ChangeAt Go.RowKit
set_option linter.unusedVariables false
set_option linter.unusedSimpArgs false
set_option maxRecDepth 20000
def fieldX (s : Int) (ahead : List Fd) (x : Fd) : Int :=
  if mayM (bt x.n) = false then 100 else if (ahead.any fun g => g.n.toList == x.n.toList) = true then 104 else if sizeM x.k = 0 then 102
  else if x.a.tmod 8 ≠ 0 ∨ plainM s ahead x.a (sizeM x.k) = false then 103 else if (x.k = 7 ∨ x.k = 6) ∧ oneM [x.k] ahead = true then 104 else 0
/-- The type without this field and those behind it. -/
abbrev Ty.ahead (t : Ty) (i : Nat) : Ty := ⟨⟨#[]⟩, t.s, t.p, t.c, t.fs.take i⟩
theorem FCell.at0 {w : World} {b : Nat} {x : Fd} (h : FCell w b 0 x) : w.cell? ⟨b, 0, none⟩ = some (.string x.n) ∧ w.cell? ⟨b, 1, none⟩ = some (.int .u8 x.k) ∧ w.cell? ⟨b, 2, none⟩ = some (.int .i64 x.a) ∧ w.cell? ⟨b, 3, none⟩ = some (.int .i64 x.o) ∧ w.cell? ⟨b, 4, none⟩ = some (.int .i64 x.d) := by
  simpa [FCell] using h
theorem TCell.at0 {w : World} {b : Nat} {n : ByteArray} {s : Int} {p : Option Addr} {c k : Nat} {fs : List Fd} (h : TCell w b 0 (Ty.mk n s p c fs)) (hk : fs.length = k) : w.cell? ⟨b, 0, none⟩ = some (.string n) ∧ w.cell? ⟨b, 1, none⟩ = some (.int .i64 s) ∧ w.cell? ⟨b, 2, none⟩ = some (.slice p k c) := by
  subst hk
  simpa [TCell] using h
set_option maxHeartbeats 4000000 in
theorem field_any (t : Ty) (i : Nat) (x : Fd) (hx : t.fs[i]? = some x) (w : World) (hf : Flds w t.p t.fs) (hs : I64 t.s) (hc : t.fs.length ≤ t.c ∧ t.c ≤ maxLen) (hn : x.n.size ≤ 4611686018427387904) :
    Calls Try.prog 71 #[.agg #[.string t.n, .int .i64 t.s, .slice t.p t.fs.length t.c], .int .i64 i] w fun e w' => e = .returned (.int .i64 (fieldX t.s (t.fs.take i) x)) ∧ Bl w w' := by
  have hlen := hf.len
  unfold maxLen at hlen hc
  obtain ⟨hc1, hc2⟩ := hc
  have hil := (List.getElem?_eq_some_iff.1 hx).1
  have hti : (t.fs.take i).length = i := by rw [List.length_take]; omega
  have hb0 : Bl w (w.alloc (.cells t.cs 42)) := (Bl.refl w).alloc _
  obtain ⟨b, off, hp, hb1, ⟨c0, c1, c2, c3, c4⟩, hok, _⟩ := (hf.gr hb0).get hx
  have hfs : ∀ W, Bl w W → Flds W t.p (t.fs.take i) := fun W h => (hf.gr h).take i
  replace hx : Hid (t.fs[i]? = some x) := hx
  replace hti : Hid ((t.fs.take i).length = i) := hti
  obtain ⟨tn, ts, tp, tc, tfs⟩ := t
  dsimp only at *
  subst hp
  have d1 : decide ((i : Int) < (tfs.length : Int)) = true := by simp; omega
  go_enter Try.func71, Try.ntmps71
  go_upto_region 2 with fail
  go_region
  have hb2 : Bl w ((((w.alloc (.cells #[.string tn, .int .i64 ts, .slice (some ⟨b, off, none⟩) tfs.length tc] 42)).alloc (.cells #[.string x.n, .int .u8 x.k, .int .i64 x.a, .int .i64 x.o, .int .i64 x.d] 48)).alloc (.cells #[.string ⟨#[]⟩, .int .i64 ts, .slice (some ⟨b, off, none⟩) i tc] 42)).drew) := by go_grown
  have hs2 : ((((w.alloc (.cells #[.string tn, .int .i64 ts, .slice (some ⟨b, off, none⟩) tfs.length tc] 42)).alloc (.cells #[.string x.n, .int .u8 x.k, .int .i64 x.a, .int .i64 x.o, .int .i64 x.d] 48)).alloc (.cells #[.string ⟨#[]⟩, .int .i64 ts, .slice (some ⟨b, off, none⟩) i tc] 42)).drew).heap.size = w.heap.size + 3 := by simp
  have hX : FCell ((((w.alloc (.cells #[.string tn, .int .i64 ts, .slice (some ⟨b, off, none⟩) tfs.length tc] 42)).alloc (.cells #[.string x.n, .int .u8 x.k, .int .i64 x.a, .int .i64 x.o, .int .i64 x.d] 48)).alloc (.cells #[.string ⟨#[]⟩, .int .i64 ts, .slice (some ⟨b, off, none⟩) i tc] 42)).drew) (w.heap.size + 1) 0 x := by
    have h := fcell_new (w.alloc (.cells #[.string tn, .int .i64 ts, .slice (some ⟨b, off, none⟩) tfs.length tc] 42)) x
    rw [size_new] at h
    exact h.gr (by rw [size_new, size_new]; omega) (by go_grown)
  have hA : TCell ((((w.alloc (.cells #[.string tn, .int .i64 ts, .slice (some ⟨b, off, none⟩) tfs.length tc] 42)).alloc (.cells #[.string x.n, .int .u8 x.k, .int .i64 x.a, .int .i64 x.o, .int .i64 x.d] 48)).alloc (.cells #[.string ⟨#[]⟩, .int .i64 ts, .slice (some ⟨b, off, none⟩) i tc] 42)).drew) (w.heap.size + 2) 0 (Ty.mk ⟨#[]⟩ ts (some ⟨b, off, none⟩) tc (tfs.take i)) := by
    have h := tcell_new ((w.alloc (.cells #[.string tn, .int .i64 ts, .slice (some ⟨b, off, none⟩) tfs.length tc] 42)).alloc (.cells #[.string x.n, .int .u8 x.k, .int .i64 x.a, .int .i64 x.o, .int .i64 x.d] 48)) (Ty.mk ⟨#[]⟩ ts (some ⟨b, off, none⟩) tc (tfs.take i))
    rw [size_new, size_new] at h
    dsimp only [Ty.cs] at h
    rw [hti.out] at h
    exact h.gr (by rw [size_new, size_new, size_new]; omega) (by go_grown)
  have hfs2 := hfs _ hb2
  generalize (((w.alloc (.cells #[.string tn, .int .i64 ts, .slice (some ⟨b, off, none⟩) tfs.length tc] 42)).alloc (.cells #[.string x.n, .int .u8 x.k, .int .i64 x.a, .int .i64 x.o, .int .i64 x.d] 48)).alloc (.cells #[.string ⟨#[]⟩, .int .i64 ts, .slice (some ⟨b, off, none⟩) i tc] 42)).drew = W2 at hb2 hs2 hX hA hfs2 ⊢
  clear c0 c1 c2 c3 c4 hb1 hf
  obtain ⟨x0, x1, x2, x3, x4⟩ := hX.at0
  have kmay := fun W => may_any x.n hn W
  have sz1 : w.heap.size + 1 < W2.heap.size := by omega
  have sz2 : w.heap.size + 2 < W2.heap.size := by omega
  cases hq1 : mayM (bt x.n) with
  | false =>
    rw [hq1] at kmay
    replace hq1 : Hid (mayM (bt x.n) = false) := hq1
    go_wp2_with (go_at_call 91; refine (kmay _).mono ?_; rintro e w3 ⟨rfl, hb3⟩)
    go_returns
    exact ⟨by show Ending.returned (Value.int .i64 100) = _; rw [fieldX, if_pos hq1.out], hb2.trans hb3⟩
  | true =>
  rw [hq1] at kmay
  replace hq1 : Hid (¬ mayM (bt x.n) = false) := by show ¬ mayM (bt x.n) = false; rw [hq1]; decide
  have kfi := fun W (h : Bl W2 W) => first_92 (.pointer (some ⟨w.heap.size + 1, 0, none⟩)) (fun g => g.n.toList == x.n.toList) (some ⟨b, off, none⟩) tc (tfs.take i) W (hfs2.gr h) (fun W' h' y hy => cf1_any y _ x.n W' (by have := ((h.trans h').cell (k := 0) sz1).trans x0; exact this) (by have := (h.trans h').size; omega))
  rw [hti.out] at kfi
  have HB := Bl.refl W2
  obtain ⟨y0, y1, y2⟩ := hA.at0 hti.out
  go_upto_region 5 with (go_at_call 91; refine (kmay _).mono ?_; rintro e w3 ⟨rfl, hb3⟩; replace HB := HB.trans hb3; clear hb3 x0 x1 x2 x3 x4 y0 y1 y2; obtain ⟨x0, x1, x2, x3, x4⟩ := (hX.gr sz1 HB).at0; obtain ⟨y0, y1, y2⟩ := (hA.gr sz2 HB).at0 hti.out)
  generalize w3 = W3 at HB x0 x1 x2 x3 x4 y0 y1 y2 ⊢
  cases hq2 : (tfs.take i).any (fun g => g.n.toList == x.n.toList) with
  | true =>
    rw [hq2] at kfi
    generalize firstI _ _ = fi at kfi
    replace hq2 : Hid ((tfs.take i).any (fun g => g.n.toList == x.n.toList) = true) := hq2
    go_wp2_with (go_at_call 54; refine (kfi _ HB).mono ?_; rintro e w4 ⟨rfl, hb4⟩)
    go_returns
    exact ⟨by show Ending.returned (Value.int .i64 104) = _; rw [fieldX, if_neg hq1.out, if_pos hq2.out], hb2.trans (HB.trans hb4)⟩
  | false =>
  rw [hq2] at kfi
  generalize firstI _ _ = fi at kfi
  replace hq2 : Hid (¬ (tfs.take i).any (fun g => g.n.toList == x.n.toList) = true) := by show ¬ _; rw [hq2]; decide
  have ksz := fun W => tsize_any x.k W
  by_cases hq3 : sizeM x.k = 0
  · rw [hq3] at ksz
    replace hq3 : Hid (sizeM x.k = 0) := hq3
    go_wp2_with first | (go_at_call 54; refine (kfi _ HB).mono ?_; rintro e w4 ⟨rfl, hb4⟩; replace HB := HB.trans hb4; clear hb4 x0 x1 x2 x3 x4 y0 y1 y2; obtain ⟨x0, x1, x2, x3, x4⟩ := (hX.gr sz1 HB).at0) | (go_at_call 22; refine (ksz _).mono ?_; rintro e w5 ⟨rfl, hw⟩; rw [hw]; clear hw)
    go_returns
    exact ⟨by show Ending.returned (Value.int .i64 102) = _; rw [fieldX, if_neg hq1.out, if_neg hq2.out, if_pos hq3.out], hb2.trans HB⟩
  have hq3b : (sizeM x.k == 0) = false := by simpa using hq3
  replace hq3 : Hid (¬ sizeM x.k = 0) := hq3
  have hsb := sizeM_bd x.k
  have kpl := fun W (h : Bl W2 W) => plain_any (Ty.mk ⟨#[]⟩ ts (some ⟨b, off, none⟩) tc (tfs.take i)) x.a (sizeM x.k) W (hfs2.gr h) hs hok.a
  dsimp only at kpl
  rw [hti.out] at kpl
  have kon := fun W (h : Bl W2 W) => hasOne_any (Ty.mk ⟨#[]⟩ ts (some ⟨b, off, none⟩) tc (tfs.take i)) _ 1 [x.k] _ (hfs2.gr (h.alloc (.cells #[.int .u8 x.k] 5))) (row_new W [x.k] (by simp) 5)
  dsimp only at kon
  rw [hti.out] at kon
  have hq3s : Hid (fieldX ts (tfs.take i) x = (if x.a.tmod 8 ≠ 0 ∨ plainM ts (tfs.take i) x.a (sizeM x.k) = false then (103 : Int) else if (x.k = 7 ∨ x.k = 6) ∧ oneM [x.k] (tfs.take i) = true then 104 else 0)) := by
    show _ = _
    rw [fieldX, if_neg hq1.out, if_neg hq2.out, if_neg hq3.out]
  go_upto_region 10 with first | (go_at_call 54; refine (kfi _ HB).mono ?_; rintro e w4 ⟨rfl, hb4⟩; replace HB := HB.trans hb4; clear hb4 x0 x1 x2 x3 x4 y0 y1 y2; obtain ⟨x0, x1, x2, x3, x4⟩ := (hX.gr sz1 HB).at0; obtain ⟨y0, y1, y2⟩ := (hA.gr sz2 HB).at0 hti.out) | (go_at_call 22; refine (ksz _).mono ?_; rintro e w5 ⟨rfl, hw⟩; rw [hw]; clear hw)
  clear x0 x1 x2 x3 x4 y0 y1 y2 kfi kmay
  generalize w4 = W4 at HB ⊢
  have x1 := fun p : BlBy W4 => (hX.gr sz1 (HB.trans p.bl)).at0.2.1
  have x2 := fun p : BlBy W4 => (hX.gr sz1 (HB.trans p.bl)).at0.2.2.1
  have y0 := fun p : BlBy W4 => ((hA.gr sz2 (HB.trans p.bl)).at0 hti.out).1
  have y1 := fun p : BlBy W4 => ((hA.gr sz2 (HB.trans p.bl)).at0 hti.out).2.1
  have y2 := fun p : BlBy W4 => ((hA.gr sz2 (HB.trans p.bl)).at0 hti.out).2.2
  have hne : Nonempty (BlBy W4) := ⟨⟨_, Bl.refl _⟩⟩
  by_cases hq4 : x.a.tmod 8 ≠ 0
  · have d4 : (x.a.tmod 8 != 0) = true := by simpa using hq4
    replace hq4 : Hid (x.a.tmod 8 ≠ 0) := hq4
    refine wp_region_bl (by kernel_rfl) (by kernel_rfl) ?_
    repeat (first
      | go_big_quiet_skip
      | (go_big_quiet_want; go_big_quiet_op; first
        | go_big_quiet_on
        | (apply Exists.intro
           refine ⟨fun p => ?_, ?_⟩
           · first
               | (go_at_call 22; exact calls_eq (ksz _))
               | (go_at_call 26; exact calls_bl (kpl _ (HB.trans p.bl)))
           go_big_quiet_on)))
    refine wpQuiet_nil ?_
    intro _ hw'
    obtain ⟨⟨wq, hq⟩, rfl⟩ := hw'
    go_wp2
    go_returns
    exact ⟨by show Ending.returned (Value.int .i64 103) = _; rw [hq3s.out, if_pos (.inl hq4.out)], hb2.trans (HB.trans hq)⟩
  have d4 : (x.a.tmod 8 != 0) = false := by simpa using hq4
  replace hq4 : Hid (¬ x.a.tmod 8 ≠ 0) := hq4
  cases hq5 : plainM ts (tfs.take i) x.a (sizeM x.k) with
  | false =>
    rw [hq5] at kpl
    replace hq5 : Hid (plainM ts (tfs.take i) x.a (sizeM x.k) = false) := hq5
    refine wp_region_bl (by kernel_rfl) (by kernel_rfl) ?_
    repeat (first
      | go_big_quiet_skip
      | (go_big_quiet_want; go_big_quiet_op; first
        | go_big_quiet_on
        | (apply Exists.intro
           refine ⟨fun p => ?_, ?_⟩
           · first
               | (go_at_call 22; exact calls_eq (ksz _))
               | (go_at_call 26; exact calls_bl (kpl _ (HB.trans p.bl)))
           go_big_quiet_on)))
    refine wpQuiet_nil ?_
    intro _ hw'
    obtain ⟨⟨wq, hq⟩, rfl⟩ := hw'
    go_wp2
    go_returns
    exact ⟨by show Ending.returned (Value.int .i64 103) = _; rw [hq3s.out, if_pos (.inr hq5.out)], hb2.trans (HB.trans hq)⟩
  | true =>
    rw [hq5] at kpl
    replace hq5 : Hid (¬ (x.a.tmod 8 ≠ 0 ∨ plainM ts (tfs.take i) x.a (sizeM x.k) = false)) := by
      show ¬ _
      rw [hq5]
      rintro (h | h)
      · exact hq4.out h
      · cases h
    refine wp_region_bl (by kernel_rfl) (by kernel_rfl) ?_
    repeat (first
      | go_big_quiet_skip
      | (go_big_quiet_want; go_big_quiet_op; first
        | go_big_quiet_on
        | (apply Exists.intro
           refine ⟨fun p => ?_, ?_⟩
           · first
               | (go_at_call 22; exact calls_eq (ksz _))
               | (go_at_call 26; exact calls_bl (kpl _ (HB.trans p.bl)))
           go_big_quiet_on)))
    refine wpQuiet_nil ?_
    intro _ hw'
    obtain ⟨⟨wq, hq⟩, rfl⟩ := hw'
    replace HB := HB.trans hq
    clear hq x1 x2 y0 y1 y2 hne
    obtain ⟨x0, x1, x2, x3, x4⟩ := (hX.gr sz1 HB).at0
    obtain ⟨y0, y1, y2⟩ := (hA.gr sz2 HB).at0 hti.out
    cases hq6 : oneM [x.k] (tfs.take i) with
    | true =>
      rw [hq6] at kon
      replace hq6 : Hid (oneM [x.k] (tfs.take i) = true) := hq6
      by_cases h7 : x.k = 7
      · have d7 : (x.k == 7) = true := by simpa using h7
        replace h7 : Hid (x.k = 7) := h7
        go_wp2_with (go_at_call 56; refine (kon _ HB).mono ?_; rintro e w6 ⟨rfl, hb6⟩)
        go_returns
        exact ⟨by show Ending.returned (Value.int .i64 104) = _; rw [hq3s.out, if_neg hq5.out, if_pos ⟨.inl h7.out, hq6.out⟩], hb2.trans ((HB.alloc _).trans hb6)⟩
      have d7 : (x.k == 7) = false := by simpa using h7
      by_cases h6 : x.k = 6
      · have d6 : (x.k == 6) = true := by simpa using h6
        replace h6 : Hid (x.k = 6) := h6
        clear h7
        go_wp2_with (go_at_call 56; refine (kon _ HB).mono ?_; rintro e w6 ⟨rfl, hb6⟩)
        go_returns
        exact ⟨by show Ending.returned (Value.int .i64 104) = _; rw [hq3s.out, if_neg hq5.out, if_pos ⟨.inr h6.out, hq6.out⟩], hb2.trans ((HB.alloc _).trans hb6)⟩
      have d6 : (x.k == 6) = false := by simpa using h6
      go_wp2
      go_returns
      exact ⟨by show Ending.returned (Value.int .i64 0) = _; rw [hq3s.out, if_neg hq5.out, if_neg (fun h => h.1.elim h7 h6)], hb2.trans HB⟩
    | false =>
      rw [hq6] at kon
      replace hq6 : Hid (¬ ((x.k = 7 ∨ x.k = 6) ∧ oneM [x.k] (tfs.take i) = true)) := by
        show ¬ _
        rw [hq6]
        rintro ⟨_, h⟩
        cases h
      by_cases h7 : x.k = 7
      · have d7 : (x.k == 7) = true := by simpa using h7
        replace h7 : Hid (x.k = 7) := h7
        go_wp2_with (go_at_call 56; refine (kon _ HB).mono ?_; rintro e w6 ⟨rfl, hb6⟩)
        go_returns
        exact ⟨by show Ending.returned (Value.int .i64 0) = _; rw [hq3s.out, if_neg hq5.out, if_neg hq6.out], hb2.trans ((HB.alloc _).trans hb6)⟩
      have d7 : (x.k == 7) = false := by simpa using h7
      by_cases h6 : x.k = 6
      · have d6 : (x.k == 6) = true := by simpa using h6
        replace h6 : Hid (x.k = 6) := h6
        clear h7
        go_wp2_with (go_at_call 56; refine (kon _ HB).mono ?_; rintro e w6 ⟨rfl, hb6⟩)
        go_returns
        exact ⟨by show Ending.returned (Value.int .i64 0) = _; rw [hq3s.out, if_neg hq5.out, if_neg hq6.out], hb2.trans ((HB.alloc _).trans hb6)⟩
      have d6 : (x.k == 6) = false := by simpa using h6
      go_wp2
      go_returns
      exact ⟨by show Ending.returned (Value.int .i64 0) = _; rw [hq3s.out, if_neg hq5.out, if_neg hq6.out], hb2.trans HB⟩
end Go.Proofs.Ytmcjmdoeafhjpaa
