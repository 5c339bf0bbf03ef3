/- Towards CodeBack: two programs one behind the other. -/
import Derived.Test.YtdmdmbcapjmnlaaXA
import Derived.Laws.AppendOwnNone
import Derived.Lib.AppendZeros
namespace Go.Proofs.Ytdmdmbcapjmnlaa
open Go.ChangeShapes Go.WideShapes Go.ChangeAt
open Go.RowKit Go.Shelf
set_option linter.unusedVariables false
set_option linter.unusedSimpArgs false
set_option maxRecDepth 20000
theorem news_sl {w : World} {b : Nat} : ∀ (L : List Sl) (off : Nat), (∀ (j : Nat) (x : Sl), L[j]? = some x → Cell5 w b (off + j * 5) x) → ∀ (j : Nat) (u : Value), (L.flatMap Sl.cells)[j]? = some u → w.cell? ((⟨b, off, none⟩ : Addr).add j) = some u
  | [], off, _, j, u, h => by simp at h
  | t :: L, off, hc, j, u, h => by
    obtain ⟨h1, h2, h3, h4, h5⟩ := hc 0 t rfl
    rw [Nat.zero_mul, Nat.add_zero] at h1 h2 h3 h4 h5
    rw [add_of rfl]
    match j, h with
    | 0, h => cases h; exact h1
    | 1, h => cases h; exact h2
    | 2, h => cases h; exact h3
    | 3, h => cases h; exact h4
    | 4, h => cases h; exact h5
    | j + 5, h =>
      have h' : (L.flatMap Sl.cells)[j]? = some u := h
      have := news_sl (w := w) (b := b) L (off + 5) (fun k s hs => by
        have := hc (k + 1) s hs
        rwa [show off + (k + 1) * 5 = off + 5 + k * 5 by omega] at this) j u h'
      rw [add_of rfl] at this
      rwa [show off + (j + 5) = off + 5 + j by omega]
theorem one_sl (L : List Sl) : ∀ u ∈ L.flatMap Sl.cells, u.oneCell' = true := by
  intro u hu
  obtain ⟨t, _, ht⟩ := List.mem_flatMap.1 hu
  simp [Sl.cells] at ht
  rcases ht with rfl | rfl | rfl | rfl | rfl <;> rfl
theorem Slots.news {w : World} {ad : Addr} {c : Nat} {L : List Sl} (h : Slots AnyB w (.slice (some ad) L.length c) L) : ∀ (j : Nat) (u : Value), (L.flatMap Sl.cells)[j]? = some u → w.cell? (ad.add j) = some u := by
  rcases h.at' with ⟨_, rfl⟩ | ⟨b, off, cap, e, _, _, hc⟩
  · intro j u hu; simp at hu
  · cases e
    exact news_sl L off hc
section
variable {H : Type} {enc : TypeId × Value → H} {w : World} {spare : Nat → Bool} {held : Bool}
theorem none_cap {r : Reach} {b0 : Nat} {v : Value} {d : DataW H} {p : List MemPlace} (hv : Value.okWide Try.prog w r b0 22 v) (h : DataW.Trod enc Try.prog w 0 spare held 22 v d p) : ∀ n c, v = .slice none n c → c = 0 := by
  intro n c hvv
  obtain ⟨a, len, cap, rfl⟩ := okWide_slice Try.underlying22 hv
  obtain ⟨fuel, hf⟩ := h
  rcases DataW.trod_slice Try.underlying22 hf with ⟨h0, _⟩ | ⟨a', len', cap', elems, rest, n, _, h0, _, _, hlc, hcm, hel, hget, _⟩
  · simp [Value.cells] at h0
    obtain ⟨rfl, rfl, rfl⟩ := h0
    cases hvv; rfl
  · simp [Value.cells] at h0
    obtain ⟨rfl, rfl, rfl⟩ := h0
    cases hvv
end
theorem app_any {w : World} {base : Nat} {v : Value} {n : Nat} {xs : List Value} (hown : w.ownsRow base 26 5 v n xs) {p : Option Addr} {c : Nat} {M : List Sl} (hM : Slots AnyB w (.slice p M.length c) M) (hn : p = none → c = 0) (hlen : n ≤ 4096) (hbase : base ≤ w.heap.size) {B : Nat} (hB : B ≤ base) :
    ∃ v' w', (Builtin.append_ #[22, 22] 22 #[v, .slice p M.length c]).run Try.prog w = .ok v' w' ∧ w'.ownsRow base 26 5 v' (n + M.length) (xs ++ M.flatMap Sl.cells) ∧ Below B w w' := by
  obtain ⟨i26, hi, hz0, hz1, hz2⟩ := info_parts info53
  have hml := hM.len
  cases p with
  | some ad =>
    obtain ⟨v', w', h1, h2, h3, _⟩ := run_append_own (P := Try.prog) (w := w) base 22 22 26 i26 (.agg #[.int .u8 0, .int .u8 0, .int .u8 0, .int .i16 0, .int .i32 0]) 5 12 Try.underlying22 hi hz0 hz1 hz2 rfl (by decide) v n xs hown ad M.length c (M.flatMap Sl.cells) (flat5_len M) hM.news (one_sl M) (by simp [maxLen]; omega) (by omega) hbase
    exact ⟨v', w', h1, h2, (Below.refl B w).grown h3 (by omega) fun k hk => by have := (hown.lt k hk).1; omega⟩
  | none =>
    obtain rfl : M = [] := by
      rcases hM.at' with ⟨_, e⟩ | ⟨b, off, cap, e, _⟩
      · exact e
      · cases e
    obtain rfl := hn rfl
    have h := run_append_owned_none (P := Try.prog) (w := w) base 22 22 26 i26 5 Try.underlying22 hi v n xs hown
    exact ⟨v, w, h, by simpa using hown, Below.refl _ _⟩
theorem both_any {w : World} {p0 : Option Addr} {c0 : Nat} {L : List Sl} {p1 : Option Addr} {c1 : Nat} {M : List Sl} (hL : Slots AnyB w (.slice p0 L.length c0) L) (hM : Slots AnyB w (.slice p1 M.length c1) M) (hn0 : p0 = none → c0 = 0) (hn1 : p1 = none → c1 = 0) (hl : L.length ≤ 200) (hm : M.length ≤ 200) :
    ∃ v1 w1 v2 w2, (Builtin.append_ #[22, 22] 22 #[.slice (some ⟨w.heap.size, 0, none⟩) 0 0, .slice p0 L.length c0]).run Try.prog (w.alloc (.cells #[] 26)) = .ok v1 w1 ∧ (Builtin.append_ #[22, 22] 22 #[v1, .slice p1 M.length c1]).run Try.prog w1 = .ok v2 w2 ∧ Slots AnyB w2 v2 (L ++ M) ∧ Below w.heap.size w w2 := by
  have hb0 : Below w.heap.size w (w.alloc (.cells #[] 26)) := (Below.refl _ _).alloc (Nat.le_refl _) _
  have hown0 : (w.alloc (.cells #[] 26)).ownsRow w.heap.size 26 5 (.slice (some ⟨w.heap.size, 0, none⟩) 0 0) 0 [] := ⟨by simp, .inr ⟨w.heap.size, 0, #[], rfl, Nat.le_refl _, World.alloc_heap_new _ _, by omega, by simp [maxLen], by simp, by simp⟩⟩
  obtain ⟨v1, w1, r1, hown1, hb1⟩ := app_any hown0 (hL.gr hb0) hn0 (by omega) hb0.size (Nat.le_refl _)
  obtain ⟨v2, w2, r2, hown2, hb2⟩ := app_any hown1 (hM.gr (hb0.trans hb1)) hn1 (by omega) (hb0.trans hb1).size (Nat.le_refl _)
  refine ⟨v1, w1, v2, w2, r1, r2, ?_, hb0.trans (hb1.trans hb2)⟩
  refine slots_row (base := w.heap.size) (by simp; omega) (fun x hx => (List.mem_append.1 hx).elim (hL.ok x) (hM.ok x)) ?_
  simpa [List.length_append, List.flatMap_append] using hown2
end Go.Proofs.Ytdmdmbcapjmnlaa
