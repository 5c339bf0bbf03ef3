/- Towards the statements of package types (layer 10): what is wrong with a type. -/
import Derived.Test.YtmcjmdoeafhjpaaTF
namespace Go.Proofs.Ytmcjmdoeafhjpaa
open Go.ChangeShapes Go.WideShapes Go.ChangeAt Go.RowKit
set_option linter.unusedVariables false
set_option linter.unusedSimpArgs false
set_option maxRecDepth 20000

def structM (L : List Ty) (i : Nat) (t : Ty) : Int × Int :=
  if 32 ≤ i then (0, 4) else if mayM (bt t.n) = false then (0, 100) else if ((L.take i).any fun u => u.n.toList == t.n.toList) = true then (0, 104)
  else if t.s < 8 ∨ 128 < t.s ∨ t.s.tmod 8 ≠ 0 then (0, 101) else if 8 < t.fs.length then (8, 4) else (0, 0)
theorem len_take {α : Type} {l : List α} {i : Nat} (h : i ≤ l.length) : (l.take i).length = i := by rw [List.length_take]; omega
theorem TCell.at0' {w : World} {b : Nat} {t : Ty} (h : TCell w b 0 t) : w.cell? ⟨b, 0, none⟩ = some (.string t.n) ∧ w.cell? ⟨b, 1, none⟩ = some (.int .i64 t.s) ∧ w.cell? ⟨b, 2, none⟩ = some (.slice t.p t.fs.length t.c) := by
  simpa [TCell] using h
set_option maxHeartbeats 4000000 in
theorem struct_any (p : Option Addr) (c : Nat) (L : List Ty) (hc : L.length ≤ c ∧ c ≤ maxLen) (i : Nat) (t : Ty) (hx : L[i]? = some t) (w : World) (hL : Tys w p L) (hn : t.n.size ≤ 4611686018427387904) :
    Calls Try.prog 70 #[.slice p L.length c, .int .i64 i] w fun e w' => e = .returned (.tuple #[.int .i64 (structM L i t).1, .int .i64 (structM L i t).2]) ∧ Bl w w' := by
  have hlen := hL.len
  unfold maxLen at hlen hc
  obtain ⟨hc1, hc2⟩ := hc
  obtain ⟨b, off, rfl, hb1, ⟨c0, c1, c2⟩, hok, hil⟩ := hL.get hx
  have hti : Hid ((L.take i).length = i) := len_take (by omega)
  have d1 : decide ((i : Int) < (L.length : Int)) = true := by simp; omega
  have hs0 := hok.s
  have hfl := hok.f.len
  unfold maxLen at hfl
  replace hx : Hid (L[i]? = some t) := hx
  by_cases h32 : 32 ≤ i
  · have d32 : decide ((32 : Int) ≤ i) = true := by simp; omega
    have ha : structM L i t = (0, 4) := by rw [structM, if_pos h32]
    rw [ha]
    go_enter Try.func70, Try.ntmps70
    go_wp2
    go_returns
    exact ⟨rfl, Bl.refl _⟩
  have d32 : decide ((32 : Int) ≤ i) = false := by simp; omega
  have hT := tcell_new w t
  have hb0 : Bl w (w.alloc (.cells t.cs 42)) := (Bl.refl w).alloc _
  have hs : w.heap.size < (w.alloc (.cells t.cs 42)).heap.size := by rw [size_new]; omega
  have kmay := fun W => may_any t.n hn W
  cases hq1 : mayM (bt t.n) with
  | false =>
    have ha : structM L i t = (0, 100) := by rw [structM, if_neg h32, if_pos hq1]
    rw [ha]
    rw [hq1] at kmay
    clear hq1
    go_enter Try.func70, Try.ntmps70
    go_wp2_with (go_at_call 91; refine (kmay _).mono ?_; rintro e w3 ⟨rfl, hb3⟩)
    go_returns
    exact ⟨rfl, hb0.trans hb3⟩
  | true =>
  rw [hq1] at kmay
  have hq1' : ¬ mayM (bt t.n) = false := by rw [hq1]; decide
  clear hq1
  have kof := fun W (h : Bl w W) => of_any' (some ⟨b, off, none⟩) c (L.take i) t.n W ((hL.gr h).take i)
  rw [hti.out] at kof
  generalize firstI _ _ = fi at kof
  cases hq2 : (L.take i).any (fun u => u.n.toList == t.n.toList) with
  | true =>
    have ha : structM L i t = (0, 104) := by rw [structM, if_neg h32, if_neg hq1', if_pos hq2]
    rw [ha]
    rw [hq2] at kof
    clear hq2
    go_enter Try.func70, Try.ntmps70
    go_upto_region 6 with (go_at_call 91; refine (kmay _).mono ?_; rintro e w3 ⟨rfl, hb3⟩)
    generalize w3 = W3 at hb3 ⊢
    have y0 := fun p : BlBy W3 => (hT.gr hs (hb3.trans p.bl)).at0'.1
    have hne : Nonempty (BlBy W3) := ⟨⟨_, Bl.refl _⟩⟩
    refine wp_region_bl (by kernel_rfl) (by kernel_rfl) ?_
    repeat (first
      | go_big_quiet_skip
      | (go_big_quiet_want; go_big_quiet_op; first
        | go_big_quiet_on
        | (apply Exists.intro
           refine ⟨fun p => ?_, ?_⟩
           · first
               | (go_at_call 18; exact calls_bl (kof _ (hb0.trans (hb3.trans p.bl))))
           go_big_quiet_on)))
    refine wpQuiet_nil ?_
    intro _ hw'
    obtain ⟨⟨wq, hq⟩, rfl⟩ := hw'
    clear y0
    obtain ⟨y0, y1, y2⟩ := (hT.gr hs (hb3.trans hq)).at0'
    go_wp2
    all_goals go_returns
    all_goals exact ⟨rfl, hb0.trans (hb3.trans hq)⟩
  | false =>
  rw [hq2] at kof
  have hq2' : ¬ (L.take i).any (fun u => u.n.toList == t.n.toList) = true := by rw [hq2]; decide
  clear hq2
  by_cases h1 : t.s < 8
  · have ha : structM L i t = (0, 101) := by rw [structM, if_neg h32, if_neg hq1', if_neg hq2', if_pos (.inl h1)]
    rw [ha]
    have e1 : decide (t.s < 8) = true := by simpa using h1
    clear hq2'
    go_enter Try.func70, Try.ntmps70
    go_upto_region 6 with (go_at_call 91; refine (kmay _).mono ?_; rintro e w3 ⟨rfl, hb3⟩)
    generalize w3 = W3 at hb3 ⊢
    have y0 := fun p : BlBy W3 => (hT.gr hs (hb3.trans p.bl)).at0'.1
    have hne : Nonempty (BlBy W3) := ⟨⟨_, Bl.refl _⟩⟩
    refine wp_region_bl (by kernel_rfl) (by kernel_rfl) ?_
    repeat (first
      | go_big_quiet_skip
      | (go_big_quiet_want; go_big_quiet_op; first
        | go_big_quiet_on
        | (apply Exists.intro
           refine ⟨fun p => ?_, ?_⟩
           · first
               | (go_at_call 18; exact calls_bl (kof _ (hb0.trans (hb3.trans p.bl))))
           go_big_quiet_on)))
    refine wpQuiet_nil ?_
    intro _ hw'
    obtain ⟨⟨wq, hq⟩, rfl⟩ := hw'
    clear y0
    obtain ⟨y0, y1, y2⟩ := (hT.gr hs (hb3.trans hq)).at0'
    go_wp2
    all_goals go_returns
    all_goals exact ⟨rfl, hb0.trans (hb3.trans hq)⟩
  have e1 : decide (t.s < 8) = false := by simp; omega
  by_cases h2 : 128 < t.s
  · have ha : structM L i t = (0, 101) := by rw [structM, if_neg h32, if_neg hq1', if_neg hq2', if_pos (.inr (.inl h2))]
    rw [ha]
    have e2 : decide (128 < t.s) = true := by simpa using h2
    clear hq2'
    go_enter Try.func70, Try.ntmps70
    go_upto_region 6 with (go_at_call 91; refine (kmay _).mono ?_; rintro e w3 ⟨rfl, hb3⟩)
    generalize w3 = W3 at hb3 ⊢
    have y0 := fun p : BlBy W3 => (hT.gr hs (hb3.trans p.bl)).at0'.1
    have hne : Nonempty (BlBy W3) := ⟨⟨_, Bl.refl _⟩⟩
    refine wp_region_bl (by kernel_rfl) (by kernel_rfl) ?_
    repeat (first
      | go_big_quiet_skip
      | (go_big_quiet_want; go_big_quiet_op; first
        | go_big_quiet_on
        | (apply Exists.intro
           refine ⟨fun p => ?_, ?_⟩
           · first
               | (go_at_call 18; exact calls_bl (kof _ (hb0.trans (hb3.trans p.bl))))
           go_big_quiet_on)))
    refine wpQuiet_nil ?_
    intro _ hw'
    obtain ⟨⟨wq, hq⟩, rfl⟩ := hw'
    clear y0
    obtain ⟨y0, y1, y2⟩ := (hT.gr hs (hb3.trans hq)).at0'
    go_wp2
    all_goals go_returns
    all_goals exact ⟨rfl, hb0.trans (hb3.trans hq)⟩
  have e2 : decide (128 < t.s) = false := by simp; omega
  by_cases h3 : t.s.tmod 8 ≠ 0
  · have ha : structM L i t = (0, 101) := by rw [structM, if_neg h32, if_neg hq1', if_neg hq2', if_pos (.inr (.inr h3))]
    rw [ha]
    have e3 : (t.s.tmod 8 != 0) = true := by simpa using h3
    have e3b : (t.s % 8 != 0) = true := by rw [← Int.tmod_eq_emod_of_nonneg (by omega)]; exact e3
    clear hq2' h3
    go_enter Try.func70, Try.ntmps70
    go_upto_region 6 with (go_at_call 91; refine (kmay _).mono ?_; rintro e w3 ⟨rfl, hb3⟩)
    generalize w3 = W3 at hb3 ⊢
    have y0 := fun p : BlBy W3 => (hT.gr hs (hb3.trans p.bl)).at0'.1
    have hne : Nonempty (BlBy W3) := ⟨⟨_, Bl.refl _⟩⟩
    refine wp_region_bl (by kernel_rfl) (by kernel_rfl) ?_
    repeat (first
      | go_big_quiet_skip
      | (go_big_quiet_want; go_big_quiet_op; first
        | go_big_quiet_on
        | (apply Exists.intro
           refine ⟨fun p => ?_, ?_⟩
           · first
               | (go_at_call 18; exact calls_bl (kof _ (hb0.trans (hb3.trans p.bl))))
           go_big_quiet_on)))
    refine wpQuiet_nil ?_
    intro _ hw'
    obtain ⟨⟨wq, hq⟩, rfl⟩ := hw'
    clear y0
    obtain ⟨y0, y1, y2⟩ := (hT.gr hs (hb3.trans hq)).at0'
    go_wp2
    all_goals go_returns
    all_goals exact ⟨rfl, hb0.trans (hb3.trans hq)⟩
  have e3 : (t.s.tmod 8 != 0) = false := by simpa using h3
  have e3b : (t.s % 8 != 0) = false := by rw [← Int.tmod_eq_emod_of_nonneg (by omega)]; exact e3
  have h123 : ¬ (t.s < 8 ∨ 128 < t.s ∨ t.s.tmod 8 ≠ 0) := by
    rintro (h | h | h)
    · exact h1 h
    · exact h2 h
    · exact h3 h
  by_cases h4 : 8 < t.fs.length
  · have ha : structM L i t = (8, 4) := by rw [structM, if_neg h32, if_neg hq1', if_neg hq2', if_neg h123, if_pos h4]
    rw [ha]
    have e4 : decide ((8 : Int) < t.fs.length) = true := by simp; omega
    clear hq2' h3 h123
    go_enter Try.func70, Try.ntmps70
    go_upto_region 6 with (go_at_call 91; refine (kmay _).mono ?_; rintro e w3 ⟨rfl, hb3⟩)
    generalize w3 = W3 at hb3 ⊢
    have y0 := fun p : BlBy W3 => (hT.gr hs (hb3.trans p.bl)).at0'.1
    have hne : Nonempty (BlBy W3) := ⟨⟨_, Bl.refl _⟩⟩
    refine wp_region_bl (by kernel_rfl) (by kernel_rfl) ?_
    repeat (first
      | go_big_quiet_skip
      | (go_big_quiet_want; go_big_quiet_op; first
        | go_big_quiet_on
        | (apply Exists.intro
           refine ⟨fun p => ?_, ?_⟩
           · first
               | (go_at_call 18; exact calls_bl (kof _ (hb0.trans (hb3.trans p.bl))))
           go_big_quiet_on)))
    refine wpQuiet_nil ?_
    intro _ hw'
    obtain ⟨⟨wq, hq⟩, rfl⟩ := hw'
    clear y0
    obtain ⟨y0, y1, y2⟩ := (hT.gr hs (hb3.trans hq)).at0'
    go_wp2
    all_goals go_returns
    all_goals exact ⟨rfl, hb0.trans (hb3.trans hq)⟩
  have ha : structM L i t = (0, 0) := by rw [structM, if_neg h32, if_neg hq1', if_neg hq2', if_neg h123, if_neg h4]
  rw [ha]
  have e4 : decide ((8 : Int) < t.fs.length) = false := by simp; omega
  clear hq2' h3 h123
  go_enter Try.func70, Try.ntmps70
  go_upto_region 6 with (go_at_call 91; refine (kmay _).mono ?_; rintro e w3 ⟨rfl, hb3⟩)
  generalize w3 = W3 at hb3 ⊢
  have y0 := fun p : BlBy W3 => (hT.gr hs (hb3.trans p.bl)).at0'.1
  have hne : Nonempty (BlBy W3) := ⟨⟨_, Bl.refl _⟩⟩
  refine wp_region_bl (by kernel_rfl) (by kernel_rfl) ?_
  repeat (first
    | go_big_quiet_skip
    | (go_big_quiet_want; go_big_quiet_op; first
      | go_big_quiet_on
      | (apply Exists.intro
         refine ⟨fun p => ?_, ?_⟩
         · first
             | (go_at_call 18; exact calls_bl (kof _ (hb0.trans (hb3.trans p.bl))))
         go_big_quiet_on)))
  refine wpQuiet_nil ?_
  intro _ hw'
  obtain ⟨⟨wq, hq⟩, rfl⟩ := hw'
  clear y0
  obtain ⟨y0, y1, y2⟩ := (hT.gr hs (hb3.trans hq)).at0'
  go_wp2
  all_goals go_returns
  all_goals exact ⟨rfl, hb0.trans (hb3.trans hq)⟩
end Go.Proofs.Ytmcjmdoeafhjpaa
