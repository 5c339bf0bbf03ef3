/- Towards the statements of package types (layer 10): TypesFirst. -/
import Derived.Test.YtmcjmdoeafhjpabLG
import Derived.Test.YtmcjmdoeafhjpabTY
import Derived.Laws.AppendOwnNone
namespace Go.Proofs.Ytmcjmdoeafhjpab
open Go.ChangeShapes Go.WideShapes Go.ChangeAt Go.RowKit Go.Shelf
set_option linter.unusedVariables false
set_option linter.unusedSimpArgs false
set_option maxRecDepth 20000

theorem take_app {L M : List Ty} {i : Nat} (hi : i ≤ L.length) : (L ++ M).take i = L.take i := by
  rw [List.take_append, Nat.sub_eq_zero_of_le hi, List.take_zero, List.append_nil]
theorem structM_app {L M : List Ty} {i : Nat} (t : Ty) (hi : i ≤ L.length) : structM (L ++ M) i t = structM L i t := by
  unfold structM
  rw [take_app hi]
theorem typeM_app {L M : List Ty} {i : Nat} (t : Ty) (hi : i ≤ L.length) : typeM (L ++ M) i t = typeM L i t := by
  unfold typeM
  rw [structM_app t hi]
theorem badT_app {L M : List Ty} : ∀ (r r' : List Ty) (i : Nat) (x : Int × Int × Int), i + r.length ≤ L.length → badT L i r = some x → badT (L ++ M) i (r ++ r') = some x
  | [], r', i, x, _, h => by rw [badT] at h; cases h
  | t :: r, r', i, x, hi, h => by
    rw [List.length_cons] at hi
    rw [badT] at h
    rw [List.cons_append, badT, typeM_app t (by omega)]
    split at h
    · rename_i hz
      rw [if_pos hz]; exact h
    · rename_i hz
      rw [if_neg hz]
      exact badT_app r r' (i + 1) x (by omega) h
theorem badH_105 {L : List Ty} : ∀ (r : List Ty) (i : Nat) (x : Int × Int × Int), badH L i r = some x → x.2.2 = 105
  | [], i, x, h => by rw [badH] at h; cases h
  | t :: r, i, x, h => by
    rw [badH] at h
    split at h
    · injection h with h; subst h; rfl
    · exact badH_105 r (i + 1) x h
theorem chk_app {L M : List Ty} (h0 : (chkM L).2.2 ≠ 0) (h5 : (chkM L).2.2 ≠ 105) : chkM (L ++ M) = chkM L := by
  cases hb : badT L 0 L with
  | some x =>
    have := badT_app (M := M) L M 0 x (by omega) hb
    rw [chkM, this, chkM, hb]
  | none =>
    exfalso
    rw [chkM, hb] at h0 h5
    dsimp only at h0 h5
    cases hh : badH L 0 L with
    | some x => rw [hh] at h5; exact h5 (badH_105 L 0 x hh)
    | none => rw [hh] at h0; exact h0 rfl
theorem news_tys {w : World} {b : Nat} : ∀ (L : List Ty) (off : Nat), (∀ (j : Nat) (t : Ty), L[j]? = some t → TCell w b (off + j * 3) t) → ∀ j u, (L.flatMap tcs)[j]? = some u → w.cell? ((⟨b, off, none⟩ : Addr).add j) = some u
  | [], off, _, j, u, h => by simp at h
  | t :: L, off, hc, j, u, h => by
    rw [add_of rfl]
    rw [List.flatMap_cons] at h
    obtain ⟨h0, h1, h2⟩ := hc 0 t rfl
    rw [Nat.zero_mul, Nat.add_zero] at h0 h1 h2
    match j, h with
    | 0, h => cases h; exact h0
    | 1, h => cases h; exact h1
    | 2, h => cases h; exact h2
    | j + 3, h =>
      have h' : (L.flatMap tcs)[j]? = some u := h
      have := news_tys (w := w) (b := b) L (off + 3) (fun k s hs => by
        have := hc (k + 1) s hs
        rwa [show off + (k + 1) * 3 = off + 3 + k * 3 by omega] at this) j u h'
      rw [add_of rfl] at this
      rwa [show off + (j + 3) = off + 3 + j by omega]
theorem flat_tcs (L : List Ty) : (L.flatMap tcs).length = L.length * 3 := by
  induction L with
  | nil => rfl
  | cons t L ih => rw [List.flatMap_cons, List.length_append, ih, List.length_cons]; simp [tcs]; omega
theorem one_tcs (L : List Ty) : ∀ u ∈ L.flatMap tcs, u.oneCell' = true := by
  intro u hu
  obtain ⟨t, _, ht⟩ := List.mem_flatMap.1 hu
  simp [tcs] at ht
  rcases ht with rfl | rfl | rfl <;> rfl
theorem Tys.news {w : World} {ad : Addr} {L : List Ty} (h : Tys w (some ad) L) : ∀ j u, (L.flatMap tcs)[j]? = some u → w.cell? (ad.add j) = some u := by
  rcases h.at' with rfl | ⟨b, off, e, _, hc⟩
  · intro j u hu; simp at hu
  · cases e
    exact news_tys L off hc
section
variable {H : Type} {enc : TypeId × Value → H} {w : World} {spare : Nat → Bool} {held : Bool}
theorem none_cap {r : Reach} {b0 : Nat} {v : Value} {d : DataW H} {p : List MemPlace} (hv : Value.okWide Try.prog w r b0 22 v) (h : DataW.Trod enc Try.prog w 0 spare held 22 v d p) : ∀ n c, v = .slice none n c → c = 0 := by
  intro n c hvv
  obtain ⟨a, len, cap, rfl⟩ := okWide_slice Try.underlying22 hv
  obtain ⟨fuel, hf⟩ := h
  rcases DataW.trod_slice Try.underlying22 hf with ⟨h0, _⟩ | ⟨a', len', cap', elems, rest, n, _, h0, _, _, hlc, hcm, hel, hget, _⟩
  · simp [Value.cells] at h0
    obtain ⟨rfl, rfl, rfl⟩ := h0
    cases hvv; rfl
  · simp [Value.cells] at h0
    obtain ⟨rfl, rfl, rfl⟩ := h0
    cases hvv
end
set_option maxHeartbeats 16000000 in
theorem first_law (p0 : Option Addr) (c0 : Nat) (L0 : List Ty) (hc0 : L0.length ≤ c0 ∧ c0 ≤ maxLen) (p1 : Option Addr) (c1 : Nat) (L1 : List Ty) (w : World) (hL0 : Tys w p0 L0) (hL1 : Tys w p1 L1) (hn : p1 = none → c1 = 0) (q0 : largeM L0 = false) (q1 : largeM L1 = false) (h0 : (chkM L0).2.2 ≠ 0) (h5 : (chkM L0).2.2 ≠ 105) :
    Calls Try.prog 4 #[.slice p0 L0.length c0, .slice p1 L1.length c1] w fun e w' => e = .returned (.bool true) ∧ Bl w w' := by
  have hal := fun W => alive_any W
  have kl0 := large_any p0 c0 L0 w hL0
  have kl1 := large_any p1 c1 L1 w hL1
  rw [q0] at kl0
  rw [q1] at kl1
  have hf0 := large_fit q0
  have hf1 := large_fit q1
  have hl0 := (large_no q0).1
  have hl1 := (large_no q1).1
  have kc := check_any p0 c0 L0 hc0 w hL0 hf0
  have happ := chk_app (M := L1) h0 h5
  have kc2 := fun p c hc W h => check_any p c (L0 ++ L1) hc W h (fun t ht => (List.mem_append.1 ht).elim (hf0 t) (hf1 t))
  rw [happ] at kc2
  simp only [List.length_append] at kc2
  unfold chkV at kc kc2
  have hnil : L0 ≠ [] := fun h => h0 (by rw [h]; rfl)
  obtain ⟨ad, rfl⟩ : ∃ ad, p0 = some ad := by
    rcases hL0.at' with rfl | ⟨b, off, e, _⟩
    · exact absurd rfl hnil
    · exact ⟨_, e⟩
  generalize chkM L0 = r at kc kc2 h0 h5
  clear happ
  have d0 : (r.2.2 == 0) = false := by simpa using h0
  have d5 : (r.2.2 == 105) = false := by simpa using h5
  have r1 : (r.1 == r.1) = true := by simp
  have r2 : (r.2.1 == r.2.1) = true := by simp
  have r3 : (r.2.2 == r.2.2) = true := by simp
  obtain ⟨i30, hi, hz0, hz1, hz2⟩ := info_parts info42
  clear h0 h5
  go_enter Try.func4, Try.ntmps4
  go_upto_region 6 with first | (go_at_call_of 5 L0.length; refine kl0.mono ?_; rintro e v1 ⟨rfl, hw⟩; rw [hw]; clear hw) | (go_at_call_of 5 L1.length; refine kl1.mono ?_; rintro e v1 ⟨rfl, hw⟩; rw [hw]; clear hw) | (go_at_call 7; refine kc.mono ?_; rintro e v2 ⟨rfl, hb2⟩)
  have hba : Bl w (v2.alloc (.cells #[] 30)) := hb2.alloc _
  have hT0 := hL0.gr hba
  have hT1 := hL1.gr hba
  have hown0 : (v2.alloc (.cells #[] 30)).ownsRow v2.heap.size 30 3 (.slice (some ⟨v2.heap.size, 0, none⟩) 0 0) 0 [] := ⟨by simp, .inr ⟨v2.heap.size, 0, #[], rfl, Nat.le_refl _, heap_new _ _ _, by omega, by simp [maxLen], by simp, by simp⟩⟩
  clear kl0 kl1 kc
  have hpos : 0 < L0.length := by
    have := hT0.at'
    rcases Nat.eq_zero_or_pos L0.length with h | h
    · exact absurd (List.eq_nil_of_length_eq_zero h) hnil
    · exact h
  cases p1 with
  | some ad1 =>
    go_upto_region 7 with first | (refine wpList_append_own _ rfl _ _ 22 rfl v2.heap.size 30 i30 (.agg #[.string ⟨#[]⟩, .int .i64 0, .slice none 0 0]) 3 48 Try.underlying22 hi hz0 hz1 hz2 rfl (by decide) (.slice (some ⟨v2.heap.size, 0, none⟩) 0 0) 0 [] rfl hown0 ad L0.length c0 (L0.flatMap tcs) rfl (flat_tcs L0) hT0.news (one_tcs L0) (by simp [maxLen]; omega) (by omega) (by rw [size_new]; omega) ?_; intro v3 w3 hown1 hgrow1 _; simp only [Nat.zero_add, List.nil_append] at hown1; obtain ⟨g3, cap3, rfl, hg3⟩ : ∃ g cap, v3 = .slice (some ⟨g, 0, none⟩) L0.length cap ∧ v2.heap.size ≤ g := (by rcases hown1.2 with ⟨_, h⟩ | ⟨g, cap, cur, e, h, _⟩; exact absurd h (by omega); exact ⟨g, cap, e, h⟩); have hb3 : Bl w w3 := hba.grown hgrow1 (by have := hb2.size; rw [size_new]; omega) (fun k hk => (by have := hb2.size; have := (hown0.lt k hk).1; omega)); clear hown0) | (refine wpList_append_own _ rfl _ _ 22 rfl v2.heap.size 30 i30 (.agg #[.string ⟨#[]⟩, .int .i64 0, .slice none 0 0]) 3 48 Try.underlying22 hi hz0 hz1 hz2 rfl (by decide) (.slice (some ⟨g3, 0, none⟩) L0.length cap3) L0.length (L0.flatMap tcs) rfl hown1 ad1 L1.length c1 (L1.flatMap tcs) rfl (flat_tcs L1) (hL1.gr hb3).news (one_tcs L1) (by simp [maxLen]; omega) (by omega) (by have := hb3.size; have := (hown1.lt g3 rfl); omega) ?_; intro v4 w4 hown2 hgrow2 _; have hb4 : Bl w w4 := hb3.grown hgrow2 hb3.size (fun k hk => (by have := hb2.size; have := (hown1.lt k hk).1; omega)); obtain ⟨p4, c4, rfl, hc4, hm4, hT4⟩ := tys_own (L := L0 ++ L1) (by simpa using hown2) (fun t ht => (List.mem_append.1 ht).elim (fun h => (hL0.ok t h).gr hb4) (fun h => (hL1.ok t h).gr hb4)); simp only [List.length_append] at hc4; clear hown1)
    go_wp2_with first | (go_at_call 7; refine (kc2 _ _ ⟨hc4, hm4⟩ _ hT4).mono ?_; rintro e w5 ⟨rfl, hb5⟩) | (go_at_call 6; refine (hal _).mono ?_; rintro e w6 ⟨rfl, hb6⟩)
    go_returns
    exact ⟨rfl, hb4.trans (hb5.trans hb6)⟩
  | none =>
    obtain rfl : L1 = [] := by
      rcases hL1.at' with e | ⟨b, off, e, _⟩
      · exact e
      · cases e
    obtain rfl := hn rfl
    simp only [List.append_nil, List.length_nil, Nat.add_zero] at kc2
    go_upto_region 7 with first | (refine wpList_append_own _ rfl _ _ 22 rfl v2.heap.size 30 i30 (.agg #[.string ⟨#[]⟩, .int .i64 0, .slice none 0 0]) 3 48 Try.underlying22 hi hz0 hz1 hz2 rfl (by decide) (.slice (some ⟨v2.heap.size, 0, none⟩) 0 0) 0 [] rfl hown0 ad L0.length c0 (L0.flatMap tcs) rfl (flat_tcs L0) hT0.news (one_tcs L0) (by simp [maxLen]; omega) (by omega) (by rw [size_new]; omega) ?_; intro v3 w3 hown1 hgrow1 _; simp only [Nat.zero_add, List.nil_append] at hown1; obtain ⟨g3, cap3, rfl, hg3⟩ : ∃ g cap, v3 = .slice (some ⟨g, 0, none⟩) L0.length cap ∧ v2.heap.size ≤ g := (by rcases hown1.2 with ⟨_, h⟩ | ⟨g, cap, cur, e, h, _⟩; exact absurd h (by omega); exact ⟨g, cap, e, h⟩); have hb3 : Bl w w3 := hba.grown hgrow1 (by have := hb2.size; rw [size_new]; omega) (fun k hk => (by have := hb2.size; have := (hown0.lt k hk).1; omega)); clear hown0) | (refine wpList_append_own_none rfl _ _ 22 rfl v2.heap.size 30 i30 3 Try.underlying22 hi (.slice (some ⟨g3, 0, none⟩) L0.length cap3) L0.length (L0.flatMap tcs) rfl hown1 rfl ?_; skip)
    obtain ⟨p4, c4, hv4, hc4, hm4, hT4⟩ := tys_own (v := .slice (some ⟨g3, 0, none⟩) L0.length cap3) (L := L0) (by simpa using hown1) (fun t h => (hL0.ok t h).gr hb3)
    cases hv4
    go_wp2_with first | (go_at_call 7; refine (kc2 _ _ ⟨hc4, hm4⟩ _ hT4).mono ?_; rintro e w5 ⟨rfl, hb5⟩) | (go_at_call 6; refine (hal _).mono ?_; rintro e w6 ⟨rfl, hb6⟩)
    go_returns
    exact ⟨rfl, hb3.trans (hb5.trans hb6)⟩
end Go.Proofs.Ytmcjmdoeafhjpab
