/- Runes of a text as mathematics: what UTF-8's decoding tells of a list of bytes. -/
import Derived.Laws.RangeAny
import Derived.Test.YtmcjmdoeafhjpaaTA
namespace Go.Proofs.Ytmcjmdoeafhjpaa
set_option linter.unusedVariables false
set_option linter.unusedSimpArgs false
set_option maxRecDepth 4000
/-- A text's bytes. -/
def bt (s : ByteArray) : List Nat := s.data.toList.map UInt8.toNat
theorem bt_len (s : ByteArray) : (bt s).length = s.size := by rw [bt, List.length_map, Array.length_toList]; rfl
theorem bt_lt (s : ByteArray) : ∀ x ∈ bt s, x < 256 := by
  intro x hx
  simp [bt] at hx
  obtain ⟨a, _, rfl⟩ := hx
  exact a.toNat_lt
theorem bt_inj {s t : ByteArray} (h : bt s = bt t) : s = t := by
  cases s with | mk a => cases t with | mk b =>
  have : a.toList = b.toList := by
    simp only [bt] at h
    exact (List.map_inj_right (fun x y e => UInt8.toNat_inj.1 e)).1 h
  rw [Array.toList_inj.1 this]
theorem bt_app (s t : ByteArray) : bt (s ++ t) = bt s ++ bt t := by simp [bt]
theorem bt_ext (s : ByteArray) (a b : Nat) : bt (s.extract a b) = ((bt s).drop a).take (b - a) := by
  simp [bt, ByteArray.data_extract, Array.toList_extract, List.extract_eq_take_drop, List.map_take, List.map_drop]
theorem bt_get (s : ByteArray) (i k : Nat) : (s.get! (i + k)).toNat = ((bt s).drop i).getD k 0 := by
  by_cases h : i + k < s.size
  · have : s.get! (i + k) = s.data[i + k] := by
      show s.data[i + k]! = _
      exact getElem!_pos s.data _ h
    rw [this]
    simp [bt, List.getD]
    rw [Array.getElem?_eq_getElem h]; rfl
  · have : s.get! (i + k) = 0 := by
      show s.data[i + k]! = _
      have := getElem!_neg s.data (i + k) h
      rw [this]; rfl
    rw [this]
    simp [bt, List.getD]
    rw [Array.getElem?_eq_none (Nat.le_of_not_lt h)]; rfl
/-- The first rune, and how many bytes it has. -/
def dec (l : List Nat) : Nat × Nat :=
  if l.getD 0 0 < 0x80 then (l.getD 0 0, 1)
  else if l.getD 0 0 / 32 == 6 && (decide (1 < l.length) && l.getD 1 0 / 64 == 2) then
    if (l.getD 0 0 % 32) * 64 + l.getD 1 0 % 64 ≥ 0x80 then ((l.getD 0 0 % 32) * 64 + l.getD 1 0 % 64, 2) else (0xFFFD, 1)
  else if l.getD 0 0 / 16 == 14 && (decide (1 < l.length) && l.getD 1 0 / 64 == 2) && (decide (2 < l.length) && l.getD 2 0 / 64 == 2) then
    if (l.getD 0 0 % 16) * 4096 + (l.getD 1 0 % 64) * 64 + l.getD 2 0 % 64 ≥ 0x800 && Utf8.valid ((l.getD 0 0 % 16) * 4096 + (l.getD 1 0 % 64) * 64 + l.getD 2 0 % 64 : Nat) then ((l.getD 0 0 % 16) * 4096 + (l.getD 1 0 % 64) * 64 + l.getD 2 0 % 64, 3) else (0xFFFD, 1)
  else if l.getD 0 0 / 8 == 30 && (decide (1 < l.length) && l.getD 1 0 / 64 == 2) && (decide (2 < l.length) && l.getD 2 0 / 64 == 2) && (decide (3 < l.length) && l.getD 3 0 / 64 == 2) then
    if (l.getD 0 0 % 8) * 262144 + (l.getD 1 0 % 64) * 4096 + (l.getD 2 0 % 64) * 64 + l.getD 3 0 % 64 ≥ 0x10000 && Utf8.valid ((l.getD 0 0 % 8) * 262144 + (l.getD 1 0 % 64) * 4096 + (l.getD 2 0 % 64) * 64 + l.getD 3 0 % 64 : Nat) then ((l.getD 0 0 % 8) * 262144 + (l.getD 1 0 % 64) * 4096 + (l.getD 2 0 % 64) * 64 + l.getD 3 0 % 64, 4) else (0xFFFD, 1)
  else (0xFFFD, 1)
theorem decode_eq (s : ByteArray) (i : Nat) (h : i < s.size) : Utf8.decode s i = dec ((bt s).drop i) := by
  have hc : ∀ k, decide (i + k < s.size) = decide (k < ((bt s).drop i).length) := fun k => by
    rw [List.length_drop, bt_len]; congr 1; apply propext; omega
  have hg := bt_get s i
  have e0 : ((bt s).drop i).getD 0 0 = (s.get! (i + 0)).toNat := (hg 0).symm
  simp only [Utf8.decode, hg, hc]
  rfl
/-- The four ways in which bytes are a rune. -/
inductive Rune : List Nat → Nat → Nat → Prop
  | one (a t) : a < 128 → Rune (a :: t) a 1
  | two (a b t) : 194 ≤ a → a < 224 → 128 ≤ b → b < 192 → Rune (a :: b :: t) ((a - 192) * 64 + (b - 128)) 2
  | three (a b c t) : 224 ≤ a → a < 240 → 128 ≤ b → b < 192 → 128 ≤ c → c < 192 → 2048 ≤ (a - 224) * 4096 + (b - 128) * 64 + (c - 128) → ((a - 224) * 4096 + (b - 128) * 64 + (c - 128) < 55296 ∨ 57344 ≤ (a - 224) * 4096 + (b - 128) * 64 + (c - 128)) → Rune (a :: b :: c :: t) ((a - 224) * 4096 + (b - 128) * 64 + (c - 128)) 3
  | four (a b c d t) : 240 ≤ a → a < 248 → 128 ≤ b → b < 192 → 128 ≤ c → c < 192 → 128 ≤ d → d < 192 → 65536 ≤ (a - 240) * 262144 + (b - 128) * 4096 + (c - 128) * 64 + (d - 128) → (a - 240) * 262144 + (b - 128) * 4096 + (c - 128) * 64 + (d - 128) ≤ 1114111 → Rune (a :: b :: c :: d :: t) ((a - 240) * 262144 + (b - 128) * 4096 + (c - 128) * 64 + (d - 128)) 4
def ok (l : List Nat) : Bool := (dec l).1 != 65533 || (dec l).2 == 3
theorem Rune.dec {l : List Nat} {r w : Nat} (h : Rune l r w) : dec l = (r, w) := by
  cases h with
  | one a t h => simp [Go.Proofs.Ytmcjmdoeafhjpaa.dec, h]
  | two a b t h1 h2 h3 h4 =>
    have e1 : a / 32 = 6 := by omega
    have e2 : b / 64 = 2 := by omega
    have e3 : a % 32 = a - 192 := by omega
    have e4 : b % 64 = b - 128 := by omega
    have e5 : ¬ a < 128 := by omega
    have e6 : 128 ≤ (a - 192) * 64 + (b - 128) := by omega
    simp [Go.Proofs.Ytmcjmdoeafhjpaa.dec, e1, e2, e3, e4, e5, e6]
  | three a b c t h1 h2 h3 h4 h5 h6 h7 h8 =>
    have e0 : ¬ a / 32 = 6 := by omega
    have e1 : a / 16 = 14 := by omega
    have e2 : b / 64 = 2 := by omega
    have e2' : c / 64 = 2 := by omega
    have e3 : a % 16 = a - 224 := by omega
    have e4 : b % 64 = b - 128 := by omega
    have e4' : c % 64 = c - 128 := by omega
    have e5 : ¬ a < 128 := by omega
    have e6 : Utf8.valid (((a - 224) * 4096 + (b - 128) * 64 + (c - 128) : Nat) : Int) = true := by simp [Utf8.valid]; omega
    generalize hx : (a - 224) * 4096 + (b - 128) * 64 + (c - 128) = x at *
    simp [Go.Proofs.Ytmcjmdoeafhjpaa.dec, e0, e1, e2, e2', e3, e4, e4', e5, e6, h7, hx]
  | four a b c d t h1 h2 h3 h4 h5 h6 h7 h8 h9 h10 =>
    have e0 : ¬ a / 32 = 6 := by omega
    have e0' : ¬ a / 16 = 14 := by omega
    have e1 : a / 8 = 30 := by omega
    have e2 : b / 64 = 2 := by omega
    have e2' : c / 64 = 2 := by omega
    have e2'' : d / 64 = 2 := by omega
    have e3 : a % 8 = a - 240 := by omega
    have e4 : b % 64 = b - 128 := by omega
    have e4' : c % 64 = c - 128 := by omega
    have e4'' : d % 64 = d - 128 := by omega
    have e5 : ¬ a < 128 := by omega
    have e6 : Utf8.valid (((a - 240) * 262144 + (b - 128) * 4096 + (c - 128) * 64 + (d - 128) : Nat) : Int) = true := by simp [Utf8.valid]; omega
    generalize hx : (a - 240) * 262144 + (b - 128) * 4096 + (c - 128) * 64 + (d - 128) = x at *
    simp [Go.Proofs.Ytmcjmdoeafhjpaa.dec, e0, e0', e1, e2, e2', e2'', e3, e4, e4', e4'', e5, e6, h9, hx]
theorem Rune.ok {l : List Nat} {r w : Nat} (h : Rune l r w) : ok l = true := by
  rw [Go.Proofs.Ytmcjmdoeafhjpaa.ok, h.dec]
  cases h <;> simp <;> omega
/-- What is not bad is a rune. -/
theorem rune_of {l : List Nat} (hl : l ≠ []) (hb : ∀ x ∈ l, x < 256) (h : ok l = true) : Rune l (dec l).1 (dec l).2 := by
  suffices H : ∃ r w, Rune l r w by
    obtain ⟨r, w, h⟩ := H
    rw [h.dec]; exact h
  cases l with
  | nil => exact absurd rfl hl
  | cons a t =>
    have ha : a < 256 := hb a (by simp)
    by_cases h1 : a < 128
    · exact ⟨_, _, .one a t h1⟩
    by_cases h2 : a < 224 ∧ 192 ≤ a
    · cases t with
      | nil =>
        have e1 : a / 32 = 6 := by omega
        have e3 : ¬ a / 16 = 14 := by omega
        have e4 : ¬ a / 8 = 30 := by omega
        simp [ok, dec, h1, e1, e3, e4] at h
      | cons b t =>
        have hb' : b < 256 := hb b (by simp)
        have e1 : a / 32 = 6 := by omega
        have e3 : ¬ a / 16 = 14 := by omega
        have e4 : ¬ a / 8 = 30 := by omega
        by_cases e2 : b / 64 = 2
        · by_cases e5 : 128 ≤ a % 32 * 64 + b % 64
          · exact ⟨_, _, .two a b t (by omega) h2.1 (by omega) (by omega)⟩
          · simp [ok, dec, h1, e1, e2, e5] at h
        · simp [ok, dec, h1, e1, e2, e3, e4] at h
    by_cases h3 : a < 240 ∧ 224 ≤ a
    · have e0 : ¬ a / 32 = 6 := by omega
      have e1 : a / 16 = 14 := by omega
      have e4 : ¬ a / 8 = 30 := by omega
      match t, hb, h with
      | [], hb, h => simp [ok, dec, h1, e0, e1, e4] at h
      | [b], hb, h => simp [ok, dec, h1, e0, e1, e4] at h
      | b :: c :: t, hb, h =>
        by_cases e2 : b / 64 = 2
        · by_cases e3 : c / 64 = 2
          · by_cases e5 : 2048 ≤ a % 16 * 4096 + b % 64 * 64 + c % 64
            · by_cases e6 : a % 16 * 4096 + b % 64 * 64 + c % 64 < 55296 ∨ 57344 ≤ a % 16 * 4096 + b % 64 * 64 + c % 64
              · rw [show a % 16 = a - 224 by omega, show b % 64 = b - 128 by omega, show c % 64 = c - 128 by omega] at e5 e6
                exact ⟨_, _, .three a b c t h3.2 h3.1 (by omega) (by omega) (by omega) (by omega) e5 e6⟩
              · generalize hx : a % 16 * 4096 + b % 64 * 64 + c % 64 = x at e5 e6
                have e7 : Utf8.valid (x : Int) = false := by
                  simp [Utf8.valid]; omega
                simp [ok, dec, h1, e0, e1, e2, e3, hx, e7] at h
            · simp [ok, dec, h1, e0, e1, e2, e3, e5] at h
          · simp [ok, dec, h1, e0, e1, e2, e3, e4] at h
        · simp [ok, dec, h1, e0, e1, e2, e4] at h
    by_cases h4 : a < 248 ∧ 240 ≤ a
    · have e0 : ¬ a / 32 = 6 := by omega
      have e1 : ¬ a / 16 = 14 := by omega
      have e4 : a / 8 = 30 := by omega
      match t, hb, h with
      | [], hb, h => simp [ok, dec, h1, e0, e1, e4] at h
      | [b], hb, h => simp [ok, dec, h1, e0, e1, e4] at h
      | [b, c], hb, h => simp [ok, dec, h1, e0, e1, e4] at h
      | b :: c :: d :: t, hb, h =>
        by_cases e2 : b / 64 = 2
        · by_cases e3 : c / 64 = 2
          · by_cases e9 : d / 64 = 2
            · by_cases e5 : 65536 ≤ a % 8 * 262144 + b % 64 * 4096 + c % 64 * 64 + d % 64
              · by_cases e6 : a % 8 * 262144 + b % 64 * 4096 + c % 64 * 64 + d % 64 ≤ 1114111
                · rw [show a % 8 = a - 240 by omega, show b % 64 = b - 128 by omega, show c % 64 = c - 128 by omega, show d % 64 = d - 128 by omega] at e5 e6
                  exact ⟨_, _, .four a b c d t h4.2 h4.1 (by omega) (by omega) (by omega) (by omega) (by omega) (by omega) e5 e6⟩
                · generalize hx : a % 8 * 262144 + b % 64 * 4096 + c % 64 * 64 + d % 64 = x at e5 e6
                  have e7 : Utf8.valid (x : Int) = false := by
                    simp [Utf8.valid]; omega
                  simp [ok, dec, h1, e0, e1, e2, e3, e4, e9, hx, e7] at h
              · simp [ok, dec, h1, e0, e1, e2, e3, e4, e5, e9] at h
            · simp [ok, dec, h1, e0, e1, e2, e3, e4, e9] at h
          · simp [ok, dec, h1, e0, e1, e2, e3, e4] at h
        · simp [ok, dec, h1, e0, e1, e2, e4] at h
    · have e0 : ¬ a / 32 = 6 := by omega
      have e1 : ¬ a / 16 = 14 := by omega
      have e4 : ¬ a / 8 = 30 := by omega
      simp [ok, dec, h1, e0, e1, e4] at h
/-- What is no rune is told as one byte. -/
theorem bad_of {l : List Nat} (h : ok l = false) : dec l = (65533, 1) := by
  unfold ok at h
  simp at h
  obtain ⟨h1, h2⟩ := h
  have : (dec l).2 = 1 := by
    revert h1 h2
    unfold dec
    repeat' split
    all_goals simp_all
    all_goals omega
  exact Prod.ext h1 this
end Go.Proofs.Ytmcjmdoeafhjpaa
