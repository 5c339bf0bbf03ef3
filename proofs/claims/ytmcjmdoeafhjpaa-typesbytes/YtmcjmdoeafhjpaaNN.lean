/- Valid texts, names, words, as mathematics. -/
import Derived.Test.YtmcjmdoeafhjpaaNM
namespace Go.Proofs.Ytmcjmdoeafhjpaa
set_option linter.unusedVariables false
set_option linter.unusedSimpArgs false
/-- Runes: how wide, and what they are told to be hangs on their own bytes alone. -/
theorem Rune.width {l : List Nat} {r w : Nat} (h : Rune l r w) : 1 ≤ w ∧ w ≤ 4 ∧ w ≤ l.length := by cases h <;> simp
theorem Rune.app {l : List Nat} {r w : Nat} (h : Rune l r w) (q : List Nat) : Rune (l ++ q) r w := by
  cases h with
  | one a t h => exact .one _ _ h
  | two a b t h1 h2 h3 h4 => exact .two a b _ h1 h2 h3 h4
  | three a b c t h1 h2 h3 h4 h5 h6 h7 h8 => exact .three a b c _ h1 h2 h3 h4 h5 h6 h7 h8
  | four a b c d t h1 h2 h3 h4 h5 h6 h7 h8 h9 h10 => exact .four a b c d _ h1 h2 h3 h4 h5 h6 h7 h8 h9 h10
theorem Rune.take {l : List Nat} {r w : Nat} (h : Rune l r w) : Rune (l.take w) r w := by
  cases h with
  | one a t h => exact .one _ _ h
  | two a b t h1 h2 h3 h4 => exact .two a b _ h1 h2 h3 h4
  | three a b c t h1 h2 h3 h4 h5 h6 h7 h8 => exact .three a b c _ h1 h2 h3 h4 h5 h6 h7 h8
  | four a b c d t h1 h2 h3 h4 h5 h6 h7 h8 h9 h10 => exact .four a b c d _ h1 h2 h3 h4 h5 h6 h7 h8 h9 h10
theorem Rune.ne {l : List Nat} {r w : Nat} (h : Rune l r w) : l ≠ [] := by cases h <;> simp
theorem Rune.fun {l : List Nat} {r w r' w' : Nat} (h : Rune l r w) (h' : Rune l r' w') : r = r' ∧ w = w' := by
  have := h.dec.symm.trans h'.dec
  cases this; exact ⟨rfl, rfl⟩
theorem Rune.range {l : List Nat} {r w : Nat} (h : Rune l r w) : r ≤ 1114111 ∧ (r < 55296 ∨ 57344 ≤ r) := by
  cases h <;> omega
/-- A text in its runes: (rune, its bytes). -/
inductive Txt : List Nat → List (Nat × List Nat) → Prop
  | nil : Txt [] []
  | cons (p l : List Nat) (r : Nat) (C) : Rune p r p.length → Txt l C → Txt (p ++ l) ((r, p) :: C)
theorem Txt.app {a b : List Nat} {C D} (h : Txt a C) (h' : Txt b D) : Txt (a ++ b) (C ++ D) := by
  induction h with
  | nil => exact h'
  | cons p l r C hr _ ih => rw [List.append_assoc]; exact .cons p _ r _ hr ih
theorem Txt.one {p : List Nat} {r : Nat} (h : Rune p r p.length) : Txt p [(r, p)] := by
  have := Txt.cons p [] r [] h .nil
  rwa [List.append_nil] at this
theorem Txt.bytes {l : List Nat} {C} (h : Txt l C) : l = C.flatMap (·.2) := by
  induction h with
  | nil => rfl
  | cons p l r C hr _ ih => simp [← ih]
theorem Txt.runes {l : List Nat} {C} (h : Txt l C) : ∀ c ∈ C, Rune c.2 c.1 c.2.length := by
  induction h with
  | nil => simp
  | cons p l r C hr _ ih =>
    intro c hc
    rcases List.mem_cons.1 hc with rfl | hc
    · exact hr
    · exact ih c hc
theorem txt_of {C : List (Nat × List Nat)} (h : ∀ c ∈ C, Rune c.2 c.1 c.2.length) : Txt (C.flatMap (·.2)) C := by
  induction C with
  | nil => exact .nil
  | cons c C ih => exact .cons c.2 _ c.1 C (h c (by simp)) (ih fun d hd => h d (by simp [hd]))
/-- The runes, and their bytes; nothing, if the text is not valid. -/
def chF : Nat → List Nat → Option (List (Nat × List Nat))
  | 0, _ => some []
  | f + 1, l => if l = [] then some [] else if ok l then (chF f (l.drop (dec l).2)).map (((dec l).1, l.take (dec l).2) :: ·) else none
def ch (l : List Nat) : Option (List (Nat × List Nat)) := chF l.length l
theorem chF_more : ∀ (f g : Nat) (l : List Nat), (∀ x ∈ l, x < 256) → l.length ≤ f → l.length ≤ g → chF f l = chF g l
  | 0, g, l, _, h, _ => by
    have : l = [] := List.eq_nil_of_length_eq_zero (by omega)
    subst this
    cases g <;> simp [chF]
  | f + 1, 0, l, _, _, h => by
    have : l = [] := List.eq_nil_of_length_eq_zero (by omega)
    subst this
    simp [chF]
  | f + 1, g + 1, l, hb, h1, h2 => by
    simp only [chF]
    split
    · rfl
    · rename_i hne
      split
      · rename_i ho
        have hw := (rune_of hne hb ho).width
        rw [chF_more f g _ (fun x hx => hb x (List.mem_of_mem_drop hx)) (by rw [List.length_drop]; omega) (by rw [List.length_drop]; omega)]
      · rfl
theorem ch_nil : ch [] = some [] := rfl
theorem ch_ok {l : List Nat} (hb : ∀ x ∈ l, x < 256) (hl : l ≠ []) (h : ok l = true) : ch l = (ch (l.drop (dec l).2)).map (((dec l).1, l.take (dec l).2) :: ·) := by
  have hw := (rune_of hl hb h).width
  have hlen : 0 < l.length := List.length_pos_iff.2 hl
  obtain ⟨n, hn⟩ : ∃ n, l.length = n + 1 := ⟨l.length - 1, by omega⟩
  rw [ch, hn, chF, if_neg hl, if_pos h, ch, chF_more n (l.drop (dec l).2).length _ (fun x hx => hb x (List.mem_of_mem_drop hx)) (by rw [List.length_drop]; omega) (Nat.le_refl _)]
theorem ch_bad {l : List Nat} (hl : l ≠ []) (h : ok l = false) : ch l = none := by
  have hlen : 0 < l.length := List.length_pos_iff.2 hl
  obtain ⟨n, hn⟩ : ∃ n, l.length = n + 1 := ⟨l.length - 1, by omega⟩
  rw [ch, hn, chF, if_neg hl, h]; rfl
theorem ch_txt : ∀ (n : Nat) (l : List Nat) (C), l.length ≤ n → (∀ x ∈ l, x < 256) → ch l = some C → Txt l C
  | 0, l, C, h, hb, hc => by
    have : l = [] := List.eq_nil_of_length_eq_zero (by omega)
    subst this
    rw [ch_nil] at hc; cases hc; exact .nil
  | n + 1, l, C, h, hb, hc => by
    by_cases hl : l = []
    · subst hl; rw [ch_nil] at hc; cases hc; exact .nil
    · cases ho : ok l with
      | false => rw [ch_bad hl ho] at hc; cases hc
      | true =>
        rw [ch_ok hb hl ho] at hc
        have hr := rune_of hl hb ho
        have hw := hr.width
        cases hd : ch (l.drop (dec l).2) with
        | none => rw [hd] at hc; cases hc
        | some D =>
          rw [hd] at hc
          cases hc
          have h1 := ch_txt n _ D (by rw [List.length_drop]; omega) (fun x hx => hb x (List.mem_of_mem_drop hx)) hd
          have h2 := Txt.cons (l.take (dec l).2) _ (dec l).1 D (by rw [List.length_take, Nat.min_eq_left hw.2.2]; exact hr.take) h1
          rwa [List.take_append_drop] at h2
theorem Txt.ch {l : List Nat} {C} (h : Txt l C) : (∀ x ∈ l, x < 256) → ch l = some C := by
  induction h with
  | nil => intro _; rfl
  | cons p l r C hr _ ih =>
    intro hb
    have hr' := hr.app l
    have hd := hr'.dec
    rw [ch_ok hb hr'.ne hr'.ok, hd]
    simp only
    rw [List.drop_left, List.take_left, ih (fun x hx => hb x (by simp [hx]))]; rfl
theorem Rune.lt {l : List Nat} {r w : Nat} (h : Rune l r w) : ∀ x ∈ l.take w, x < 256 := by
  cases h <;> simp <;> omega
theorem Txt.lt {l : List Nat} {C} (h : Txt l C) : ∀ x ∈ l, x < 256 := by
  induction h with
  | nil => simp
  | cons p l r C hr _ ih =>
    intro x hx
    rcases List.mem_append.1 hx with hx | hx
    · have := hr.lt x; rw [List.take_length] at this; exact this hx
    · exact ih x hx
theorem ch_iff {l : List Nat} {C} (hb : ∀ x ∈ l, x < 256) : Go.Proofs.Ytmcjmdoeafhjpaa.ch l = some C ↔ Txt l C := ⟨ch_txt _ l C (Nat.le_refl _) hb, fun h => h.ch hb⟩
theorem Txt.fun {l : List Nat} {C D} (h : Txt l C) (h' : Txt l D) : C = D := by
  have := (h.ch h.lt).symm.trans (h'.ch h.lt)
  cases this; rfl
/-- Letters, digits, names. -/
def letterB (r : Int) : Bool := decide (97 ≤ r ∧ r ≤ 122) || decide (65 ≤ r ∧ r ≤ 90) || decide (r = 95) || (decide (192 ≤ r ∧ r ≠ 215 ∧ r ≠ 247) && Utf8.valid r)
def digitB (r : Int) : Bool := decide (48 ≤ r ∧ r ≤ 57)
def mayC (C : List (Nat × List Nat)) : Bool := decide (1 ≤ C.length ∧ C.length ≤ 32) && C.all (fun c => letterB c.1 || digitB c.1) && letterB (C.headD (0, [])).1
def mayM (l : List Nat) : Bool := match ch l with | none => false | some C => mayC C
def runM (l : List Nat) : Int := match ch l with | none => -1 | some C => C.length
/-- The words of a row of runes. -/
def endC (cur : List (Nat × List Nat)) : List (List Nat) := if mayC cur then [cur.flatMap (·.2)] else []
def wordsC : List (Nat × List Nat) → List (Nat × List Nat) → List (List Nat)
  | [], cur => endC cur
  | c :: t, cur => if letterB c.1 || digitB c.1 then wordsC t (cur ++ [c]) else endC cur ++ wordsC t []
def wordsM (l : List Nat) : List (List Nat) := match ch l with | none => [] | some C => wordsC C []
theorem wordsC_app (C D cur : List (Nat × List Nat)) (h : ∀ c ∈ C, (letterB c.1 || digitB c.1) = true) : wordsC (C ++ D) cur = wordsC D (cur ++ C) := by
  induction C generalizing cur with
  | nil => simp
  | cons c C ih =>
    rw [List.cons_append, wordsC, if_pos (h c (by simp)), ih _ (fun d hd => h d (by simp [hd]))]
    simp
theorem mayC_all {C : List (Nat × List Nat)} (h : mayC C = true) : ∀ c ∈ C, (letterB c.1 || digitB c.1) = true := by
  simp only [mayC, Bool.and_eq_true, List.all_eq_true] at h
  exact h.1.2
theorem wordsC_may {C : List (Nat × List Nat)} (h : mayC C = true) (b : Nat × List Nat) (hb : (letterB b.1 || digitB b.1) = false) (D) : wordsC (C ++ b :: D) [] = C.flatMap (·.2) :: wordsC D [] := by
  rw [wordsC_app _ _ _ (mayC_all h), wordsC, hb, List.nil_append, endC, if_pos h]; rfl
theorem wordsC_one {C : List (Nat × List Nat)} (h : mayC C = true) : wordsC C [] = [C.flatMap (·.2)] := by
  have := wordsC_app C [] [] (mayC_all h)
  rw [List.append_nil] at this
  rw [this, wordsC, List.nil_append, endC, if_pos h]
/-- Each word is a name. -/
theorem endC_each (cur : List (Nat × List Nat)) (h : ∀ c ∈ cur, Rune c.2 c.1 c.2.length) : ∀ x ∈ endC cur, ∃ D, Txt x D ∧ mayC D = true := by
  intro x hx
  rw [endC] at hx
  split at hx
  · rename_i hm
    rw [List.mem_singleton.1 hx]
    exact ⟨cur, txt_of h, hm⟩
  · cases hx
theorem wordsC_each : ∀ (C cur : List (Nat × List Nat)), (∀ c ∈ C, Rune c.2 c.1 c.2.length) → (∀ c ∈ cur, Rune c.2 c.1 c.2.length) → ∀ x ∈ wordsC C cur, ∃ D, Txt x D ∧ mayC D = true
  | [], cur, _, h, x, hx => by
    exact endC_each cur h x (by rw [wordsC] at hx; exact hx)
  | c :: C, cur, hC, h, x, hx => by
    rw [wordsC] at hx
    split at hx
    · refine wordsC_each C _ (fun d hd => hC d (by simp [hd])) (fun d hd => ?_) x hx
      rcases List.mem_append.1 hd with hd | hd
      · exact h d hd
      · rw [List.mem_singleton.1 hd]; exact hC c (by simp)
    · rcases List.mem_append.1 hx with hx | hx
      · exact endC_each cur h x hx
      · exact wordsC_each C [] (fun d hd => hC d (by simp [hd])) (by simp) x hx
theorem Txt.mayM {l : List Nat} {C} (h : Txt l C) : mayM l = mayC C := by rw [Go.Proofs.Ytmcjmdoeafhjpaa.mayM, h.ch h.lt]
theorem Txt.runM {l : List Nat} {C} (h : Txt l C) : runM l = C.length := by rw [Go.Proofs.Ytmcjmdoeafhjpaa.runM, h.ch h.lt]
theorem Txt.wordsM {l : List Nat} {C} (h : Txt l C) : wordsM l = wordsC C [] := by rw [Go.Proofs.Ytmcjmdoeafhjpaa.wordsM, h.ch h.lt]
theorem may_txt {l : List Nat} (hb : ∀ x ∈ l, x < 256) (h : Go.Proofs.Ytmcjmdoeafhjpaa.mayM l = true) : ∃ C, Txt l C ∧ mayC C = true := by
  rw [Go.Proofs.Ytmcjmdoeafhjpaa.mayM] at h
  cases hc : Go.Proofs.Ytmcjmdoeafhjpaa.ch l with
  | none => rw [hc] at h; cases h
  | some C => rw [hc] at h; exact ⟨C, (ch_iff hb).1 hc, h⟩
theorem words_each {l : List Nat} (hb : ∀ x ∈ l, x < 256) : ∀ x ∈ Go.Proofs.Ytmcjmdoeafhjpaa.wordsM l, Go.Proofs.Ytmcjmdoeafhjpaa.mayM x = true := by
  intro x hx
  rw [Go.Proofs.Ytmcjmdoeafhjpaa.wordsM] at hx
  cases hc : Go.Proofs.Ytmcjmdoeafhjpaa.ch l with
  | none => rw [hc] at hx; cases hx
  | some C =>
    rw [hc] at hx
    obtain ⟨D, h1, h2⟩ := wordsC_each C [] ((ch_iff hb).1 hc).runes (by simp) x hx
    rw [h1.mayM, h2]
theorem blank : Rune [32] 32 1 := .one 32 [] (by decide)
/-- Names with a blank behind each are read as they are. -/
theorem words_join (W : List (List Nat)) (h : ∀ x ∈ W, (∀ y ∈ x, y < 256) ∧ Go.Proofs.Ytmcjmdoeafhjpaa.mayM x = true) : ∃ C, Txt (W.flatMap (· ++ [32])) C ∧ wordsC C [] = W := by
  induction W with
  | nil => exact ⟨[], .nil, by decide⟩
  | cons x W ih =>
    obtain ⟨C, h1, h2⟩ := ih fun y hy => h y (by simp [hy])
    obtain ⟨D, h3, h4⟩ := may_txt (h x (by simp)).1 (h x (by simp)).2
    refine ⟨D ++ ((32, [32]) :: C), ?_, ?_⟩
    · rw [List.flatMap_cons, List.append_assoc]
      exact h3.app (.cons [32] _ 32 C blank h1)
    · rw [wordsC_may h4 _ (by decide), h2, ← h3.bytes]
theorem words_two {a b : List Nat} (ha : ∀ y ∈ a, y < 256) (hb : ∀ y ∈ b, y < 256) (h1 : Go.Proofs.Ytmcjmdoeafhjpaa.mayM a = true) (h2 : Go.Proofs.Ytmcjmdoeafhjpaa.mayM b = true) : Go.Proofs.Ytmcjmdoeafhjpaa.wordsM (a ++ 32 :: b) = [a, b] := by
  obtain ⟨C, h3, h4⟩ := may_txt ha h1
  obtain ⟨D, h5, h6⟩ := may_txt hb h2
  have ht : Txt (a ++ 32 :: b) (C ++ (32, [32]) :: D) := h3.app (.cons [32] _ 32 D blank h5)
  rw [ht.wordsM, wordsC_may h4 _ (by decide), wordsC_one h6, ← h3.bytes, ← h5.bytes]
theorem words_self {a : List Nat} (ha : ∀ y ∈ a, y < 256) (h1 : Go.Proofs.Ytmcjmdoeafhjpaa.mayM a = true) : Go.Proofs.Ytmcjmdoeafhjpaa.wordsM a = [a] := by
  obtain ⟨C, h3, h4⟩ := may_txt ha h1
  rw [h3.wordsM, wordsC_one h4, ← h3.bytes]
end Go.Proofs.Ytmcjmdoeafhjpaa
