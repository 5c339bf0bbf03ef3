/- Towards the statements of package name (layer 9): the document's Read. -/
import Derived.Test.YtmcjmdoeafhjpaaNS
namespace Go.Proofs.Ytmcjmdoeafhjpaa
open Go.ChangeShapes Go.WideShapes Go.ChangeAt Go.RowKit
set_option linter.unusedVariables false
set_option linter.unusedSimpArgs false
set_option maxRecDepth 20000
theorem text_nil (a : ByteArray) : a.toList = [] ↔ bt a = [] := by
  rw [ByteArray.toList_eq]; simp [bt]
/-- A byte of a rune behind its first one. -/
def tailV (l : List Nat) (k : Nat) : Int := match l[k]? with | none => -1 | some x => if 128 ≤ x ∧ x < 192 then (x : Int) - 128 else -1
theorem bt_at {s : ByteArray} {k x : Nat} (h : (bt s)[k]? = some x) : ∃ h : k < s.size, (s[k]'h).toNat = x := by
  have hl := (List.getElem?_eq_some_iff.1 h).1
  rw [bt_len] at hl
  refine ⟨hl, ?_⟩
  simp only [bt, List.getElem?_map, Array.getElem?_toList] at h
  rw [Array.getElem?_eq_getElem hl] at h
  simp only [Option.map_some, Option.some.injEq] at h
  exact h
theorem tail_any (s : ByteArray) (k : Nat) (w : World) : Calls Try.prog 95 #[.string s, .int .i64 k] w fun e w' => e = .returned (.int .i64 (tailV (bt s) k)) ∧ w' = w := by
  cases h : (bt s)[k]? with
  | none =>
    have hl : s.size ≤ k := by rw [List.getElem?_eq_none_iff, bt_len] at h; exact h
    have hd : decide ((s.size : Int) ≤ k) = true := by simp; omega
    rw [tailV, h]
    go_enter Try.func95, Try.ntmps95
    go_wp2
    go_returns
    exact ⟨rfl, rfl⟩
  | some x =>
    obtain ⟨hl, hx⟩ := bt_at h
    have hd : decide (s.size ≤ k) = false := by simp; omega
    have hlt := bt_lt s x (List.mem_of_getElem? h)
    have ew : IntKind.i64.wrap ((x : Int) - 128) = (x : Int) - 128 := IntWalk.i64_in _ (by omega)
    have ec : IntKind.i64.wrap (x : Int) = (x : Int) := IntWalk.i64_in _ (by omega)
    rw [tailV, h]
    dsimp only
    replace h : True := trivial
    by_cases h1 : x < 128
    · have d1 : decide ((x : Int) < 128) = true := by simp; omega
      rw [if_neg (by omega)]
      go_enter Try.func95, Try.ntmps95
      go_wp2
      go_returns
      exact ⟨rfl, rfl⟩
    · have d1 : decide ((x : Int) < 128) = false := by simp; omega
      by_cases h2 : x < 192
      · have d2 : decide ((191 : Int) < x) = false := by simp; omega
        rw [if_pos (by omega)]
        go_enter Try.func95, Try.ntmps95
        go_wp2
        go_returns
        exact ⟨rfl, rfl⟩
      · have d2 : decide ((191 : Int) < x) = true := by simp; omega
        rw [if_neg (by omega)]
        go_enter Try.func95, Try.ntmps95
        go_wp2
        go_returns
        exact ⟨rfl, rfl⟩
theorem tail_case (l : List Nat) (k : Nat) : (tailV l k = -1 ∧ ∀ b, l[k]? = some b → ¬ (128 ≤ b ∧ b < 192)) ∨ ∃ b : Nat, l[k]? = some b ∧ 128 ≤ b ∧ b < 192 ∧ tailV l k = (b : Int) - 128 := by
  unfold tailV
  cases h : l[k]? with
  | none => exact .inl ⟨rfl, by simp⟩
  | some b =>
    by_cases hb : 128 ≤ b ∧ b < 192
    · exact .inr ⟨b, rfl, hb.1, hb.2, by simp [hb]⟩
    · exact .inl ⟨by simp [hb], fun c hc => by cases hc; exact hb⟩
theorem rune_inv {l : List Nat} {r w : Nat} (h : Rune l r w) (c : Nat) (hc : l[0]? = some c) : c < 128 ∨ (194 ≤ c ∧ c < 224 ∧ ∃ b, l[1]? = some b ∧ (128 ≤ b ∧ b < 192)) ∨
    (224 ≤ c ∧ c < 240 ∧ ∃ b d, l[1]? = some b ∧ l[2]? = some d ∧ (128 ≤ b ∧ b < 192) ∧ (128 ≤ d ∧ d < 192) ∧ 2048 ≤ (c - 224) * 4096 + (b - 128) * 64 + (d - 128) ∧ ((c - 224) * 4096 + (b - 128) * 64 + (d - 128) < 55296 ∨ 57344 ≤ (c - 224) * 4096 + (b - 128) * 64 + (d - 128))) ∨
    (240 ≤ c ∧ c < 248 ∧ ∃ b d e, l[1]? = some b ∧ l[2]? = some d ∧ l[3]? = some e ∧ (128 ≤ b ∧ b < 192) ∧ (128 ≤ d ∧ d < 192) ∧ (128 ≤ e ∧ e < 192) ∧ 65536 ≤ (c - 240) * 262144 + (b - 128) * 4096 + (d - 128) * 64 + (e - 128) ∧ (c - 240) * 262144 + (b - 128) * 4096 + (d - 128) * 64 + (e - 128) ≤ 1114111) := by
  cases h with
  | one a t h => simp at hc; subst hc; exact .inl h
  | two a b t h1 h2 h3 h4 => simp at hc; subst hc; exact .inr (.inl ⟨h1, h2, b, rfl, h3, h4⟩)
  | three a b d t h1 h2 h3 h4 h5 h6 h7 h8 => simp at hc; subst hc; exact .inr (.inr (.inl ⟨h1, h2, b, d, rfl, rfl, ⟨h3, h4⟩, ⟨h5, h6⟩, h7, h8⟩))
  | four a b d e t h1 h2 h3 h4 h5 h6 h7 h8 h9 h10 => simp at hc; subst hc; exact .inr (.inr (.inr ⟨h1, h2, b, d, e, rfl, rfl, rfl, ⟨h3, h4⟩, ⟨h5, h6⟩, ⟨h7, h8⟩, h9, h10⟩))
theorem rune_1 {l : List Nat} {a : Nat} (h0 : l[0]? = some a) (h : a < 128) : Rune l a 1 := by
  match l, h0 with
  | x :: t, h0 => simp at h0; subst h0; exact .one _ _ h
theorem rune_2 {l : List Nat} {a b : Nat} (h0 : l[0]? = some a) (g0 : l[1]? = some b) (h1 : 194 ≤ a) (h2 : a < 224) (h3 : 128 ≤ b) (h4 : b < 192) : Rune l ((a - 192) * 64 + (b - 128)) 2 := by
  match l, h0, g0 with
  | x :: y :: t, h0, g0 => simp at h0 g0; subst h0 g0; exact .two _ _ _ h1 h2 h3 h4
theorem rune_3 {l : List Nat} {a b c : Nat} (h0 : l[0]? = some a) (g0 : l[1]? = some b) (k0 : l[2]? = some c) (h1 : 224 ≤ a) (h2 : a < 240) (h3 : 128 ≤ b) (h4 : b < 192) (h5 : 128 ≤ c) (h6 : c < 192) (h7 : 2048 ≤ (a - 224) * 4096 + (b - 128) * 64 + (c - 128)) (h8 : (a - 224) * 4096 + (b - 128) * 64 + (c - 128) < 55296 ∨ 57344 ≤ (a - 224) * 4096 + (b - 128) * 64 + (c - 128)) : Rune l ((a - 224) * 4096 + (b - 128) * 64 + (c - 128)) 3 := by
  match l, h0, g0, k0 with
  | x :: y :: z :: t, h0, g0, k0 => simp at h0 g0 k0; subst h0 g0 k0; exact .three _ _ _ _ h1 h2 h3 h4 h5 h6 h7 h8
theorem rune_4 {l : List Nat} {a b c d : Nat} (h0 : l[0]? = some a) (g0 : l[1]? = some b) (k0 : l[2]? = some c) (m0 : l[3]? = some d) (h1 : 240 ≤ a) (h2 : a < 248) (h3 : 128 ≤ b) (h4 : b < 192) (h5 : 128 ≤ c) (h6 : c < 192) (h7 : 128 ≤ d) (h8 : d < 192) (h9 : 65536 ≤ (a - 240) * 262144 + (b - 128) * 4096 + (c - 128) * 64 + (d - 128)) (h10 : (a - 240) * 262144 + (b - 128) * 4096 + (c - 128) * 64 + (d - 128) ≤ 1114111) : Rune l ((a - 240) * 262144 + (b - 128) * 4096 + (c - 128) * 64 + (d - 128)) 4 := by
  match l, h0, g0, k0, m0 with
  | x :: y :: z :: v :: t, h0, g0, k0, m0 => simp at h0 g0 k0 m0; subst h0 g0 k0 m0; exact .four _ _ _ _ _ h1 h2 h3 h4 h5 h6 h7 h8 h9 h10
/-- What Read tells. -/
def readV (l : List Nat) : Value := if l ≠ [] ∧ ok l = true then .tuple #[.int .i64 (dec l).1, .int .i64 (dec l).2] else .tuple #[.int .i64 (-1), .int .i64 0]
theorem read_yes {l : List Nat} {r w : Nat} (h : Rune l r w) : readV l = .tuple #[.int .i64 r, .int .i64 w] := by
  rw [readV, if_pos ⟨h.ne, h.ok⟩, h.dec]
theorem read_no {l : List Nat} (hb : ∀ x ∈ l, x < 256) (h : ∀ r w, ¬ Rune l r w) : readV l = .tuple #[.int .i64 (-1), .int .i64 0] := by
  rw [readV, if_neg]
  rintro ⟨h1, h2⟩
  exact h _ _ (rune_of h1 hb h2)
set_option maxHeartbeats 8000000 in
theorem read_any (s : ByteArray) (w : World) : Calls Try.prog 82 #[.string s] w fun e w' => e = .returned (readV (bt s)) ∧ w' = w := by
  have hb := bt_lt s
  cases h0 : (bt s)[0]? with
  | none =>
    have hl : s.size = 0 := by rw [List.getElem?_eq_none_iff, bt_len] at h0; omega
    have hn : bt s = [] := List.eq_nil_of_length_eq_zero (by rw [bt_len, hl])
    rw [read_no hb (fun r w h => by rw [hn] at h; exact absurd rfl h.ne)]
    have hE := (text_nil s).2 hn
    have hE2 : s.toList.isEmpty = true := by simp [hE]
    replace hn : True := trivial
    go_enter Try.func82, Try.ntmps82
    go_wp2
    go_returns
    exact ⟨rfl, rfl⟩
  | some c =>
    obtain ⟨hl, hx⟩ := bt_at h0
    have hc := hb c (List.mem_of_getElem? h0)
    have hne : bt s ≠ [] := fun e => by rw [e] at h0; cases h0
    have hE : ¬ s.toList = [] := fun e => hne ((text_nil s).1 e)
    have hE2 : s.toList.isEmpty = false := by simpa using hE
    have ec : IntKind.i64.wrap (c : Int) = (c : Int) := IntWalk.i64_in _ (by omega)
    have k1 : ∀ W, Calls Try.prog 95 #[.string s, .int .i64 1] W fun e w' => e = .returned (.int .i64 (tailV (bt s) 1)) ∧ w' = W := fun W => tail_any s 1 W
    have k2 : ∀ W, Calls Try.prog 95 #[.string s, .int .i64 2] W fun e w' => e = .returned (.int .i64 (tailV (bt s) 2)) ∧ w' = W := fun W => tail_any s 2 W
    have k3 : ∀ W, Calls Try.prog 95 #[.string s, .int .i64 3] W fun e w' => e = .returned (.int .i64 (tailV (bt s) 3)) ∧ w' = W := fun W => tail_any s 3 W
    have hinv := fun r w (h : Rune (bt s) r w) => rune_inv h c h0
    have q1 := tail_case (bt s) 1
    have q2 := tail_case (bt s) 2
    have q3 := tail_case (bt s) 3
    generalize tailV (bt s) 1 = t1 at k1 q1
    generalize tailV (bt s) 2 = t2 at k2 q2
    generalize tailV (bt s) 3 = t3 at k3 q3
    clear hne
    by_cases hA : c < 128
    · rw [read_yes (rune_1 h0 hA)]
      have f0 : decide ((c : Int) < 128) = true := by simp; omega
      clear hinv q1 q2 q3
      clear hA
      go_enter Try.func82, Try.ntmps82
      go_wp2
      go_returns
      exact ⟨rfl, rfl⟩
    by_cases hL : c < 192
    · have hrd := read_no hb (fun r w h => by
        have hi := hinv r w h
        omega)
      rw [hrd]
      clear hrd
      have f0 : decide ((c : Int) < 128) = false := by simp; omega
      have f1 : decide ((192 : Int) ≤ c) = false := by simp; omega
      have f2 : decide ((c : Int) < 224) = true := by simp; omega
      have f3 : decide ((224 : Int) ≤ c) = false := by simp; omega
      have f4 : decide ((c : Int) < 240) = true := by simp; omega
      have f5 : decide ((240 : Int) ≤ c) = false := by simp; omega
      have f6 : decide ((c : Int) < 248) = true := by simp; omega
      clear hinv q1 q2 q3
      clear hA hL
      go_enter Try.func82, Try.ntmps82
      go_wp2
      go_returns
      exact ⟨rfl, rfl⟩
    by_cases hB : c < 224
    · rcases q1 with ⟨rfl, b1⟩ | ⟨x1, g1, m1, n1, rfl⟩
      · have hrd := read_no hb (fun r w h => by
          have hi := hinv r w h
          rcases hi with h | ⟨_, _, y1, z1, h1⟩ | ⟨_, _, y1, y2, z1, z2, h1, h2, _, _⟩ | ⟨_, _, y1, y2, y3, z1, z2, z3, h1, h2, h3, _, _⟩
          · omega
          · first | exact b1 _ z1 h1 | omega
          · first | exact b1 _ z1 h1 | omega
          · first | exact b1 _ z1 h1 | omega)
        rw [hrd]
        clear hrd
        clear hinv q2 q3
        clear b1
        have f0 : decide ((c : Int) < 128) = false := by simp; omega
        have f1 : decide ((192 : Int) ≤ c) = true := by simp; omega
        have f2 : decide ((c : Int) < 224) = true := by simp; omega
        have f3 : decide ((224 : Int) ≤ c) = false := by simp; omega
        have f4 : decide ((c : Int) < 240) = true := by simp; omega
        have f5 : decide ((240 : Int) ≤ c) = false := by simp; omega
        have f6 : decide ((c : Int) < 248) = true := by simp; omega
        have e1 : IntKind.i64.wrap ((c : Int) - 192) = (c : Int) - 192 := IntWalk.i64_in _ (by omega)
        go_enter Try.func82, Try.ntmps82
        go_wp2
        refine wp_loop_rounds 4 ?_
        repeat any_goals (rw [rounds_succ]; go_wp2_with (first | (go_at_call_of 95 (1 : Int); refine (k1 _).mono ?_; rintro e w' ⟨rfl, rfl⟩) | (go_at_call_of 95 (2 : Int); refine (k2 _).mono ?_; rintro e w' ⟨rfl, rfl⟩) | (go_at_call_of 95 (3 : Int); refine (k3 _).mono ?_; rintro e w' ⟨rfl, rfl⟩)))
        all_goals (try rw [Exit.noGoto_ret])
        all_goals go_returns
        exact ⟨rfl, rfl⟩
      · have e2 : IntKind.i64.wrap (64 * ((c : Int) - 192)) = 64 * ((c : Int) - 192) := IntWalk.i64_in _ (by omega)
        have e3 : IntKind.i64.wrap (64 * ((c : Int) - 192) + ((x1 : Int) - 128)) = 64 * ((c : Int) - 192) + ((x1 : Int) - 128) := IntWalk.i64_in _ (by omega)
        have t0 : decide ((x1 : Int) - 128 < 0) = false := by simp; omega
        obtain ⟨R, hR⟩ : ∃ R : Nat, R = (c - 192) * 64 + (x1 - 128) := ⟨_, rfl⟩
        have hRi : 64 * ((c : Int) - 192) + ((x1 : Int) - 128) = (R : Int) := by omega
        by_cases hz : R < 128
        · have hrd := read_no hb (fun r w h => by
            have hi := hinv r w h
            rcases hi with h | ⟨_, _, y1, z1, h1⟩ | ⟨_, _, y1, y2, z1, z2, h1, h2, _, _⟩ | ⟨_, _, y1, y2, y3, z1, z2, z3, h1, h2, h3, _, _⟩
            · omega
            · omega
            · omega
            · omega
          )
          rw [hrd]
          clear hrd
          have r0 : decide ((R : Int) < 128) = true := by simp; omega
          clear hR hz
          clear hinv q2 q3
          have f0 : decide ((c : Int) < 128) = false := by simp; omega
          have f1 : decide ((192 : Int) ≤ c) = true := by simp; omega
          have f2 : decide ((c : Int) < 224) = true := by simp; omega
          have f3 : decide ((224 : Int) ≤ c) = false := by simp; omega
          have f4 : decide ((c : Int) < 240) = true := by simp; omega
          have f5 : decide ((240 : Int) ≤ c) = false := by simp; omega
          have f6 : decide ((c : Int) < 248) = true := by simp; omega
          have e1 : IntKind.i64.wrap ((c : Int) - 192) = (c : Int) - 192 := IntWalk.i64_in _ (by omega)
          go_enter Try.func82, Try.ntmps82
          go_wp2
          refine wp_loop_rounds 4 ?_
          repeat any_goals (rw [rounds_succ]; go_wp2_with (first | (go_at_call_of 95 (1 : Int); refine (k1 _).mono ?_; rintro e w' ⟨rfl, rfl⟩) | (go_at_call_of 95 (2 : Int); refine (k2 _).mono ?_; rintro e w' ⟨rfl, rfl⟩) | (go_at_call_of 95 (3 : Int); refine (k3 _).mono ?_; rintro e w' ⟨rfl, rfl⟩)))
          all_goals (try rw [Exit.noGoto_ret])
          all_goals go_returns
          exact ⟨rfl, rfl⟩
        · have hru := read_yes (rune_2 h0 g1 (by omega) (by omega) m1 n1)
          rw [hru, ← hR]
          clear hru
          have r0 : decide ((R : Int) < 128) = false := by simp; omega
          have r1 : decide ((1114111 : Int) < R) = false := by simp; omega
          have r2 : decide ((55296 : Int) ≤ R) = false := by simp; omega
          clear hR hz
          clear hinv q2 q3
          have f0 : decide ((c : Int) < 128) = false := by simp; omega
          have f1 : decide ((192 : Int) ≤ c) = true := by simp; omega
          have f2 : decide ((c : Int) < 224) = true := by simp; omega
          have f3 : decide ((224 : Int) ≤ c) = false := by simp; omega
          have f4 : decide ((c : Int) < 240) = true := by simp; omega
          have f5 : decide ((240 : Int) ≤ c) = false := by simp; omega
          have f6 : decide ((c : Int) < 248) = true := by simp; omega
          have e1 : IntKind.i64.wrap ((c : Int) - 192) = (c : Int) - 192 := IntWalk.i64_in _ (by omega)
          go_enter Try.func82, Try.ntmps82
          go_wp2
          refine wp_loop_rounds 4 ?_
          repeat any_goals (rw [rounds_succ]; go_wp2_with (first | (go_at_call_of 95 (1 : Int); refine (k1 _).mono ?_; rintro e w' ⟨rfl, rfl⟩) | (go_at_call_of 95 (2 : Int); refine (k2 _).mono ?_; rintro e w' ⟨rfl, rfl⟩) | (go_at_call_of 95 (3 : Int); refine (k3 _).mono ?_; rintro e w' ⟨rfl, rfl⟩)))
          all_goals (try rw [Exit.noGoto_ret])
          all_goals go_returns
          exact ⟨rfl, rfl⟩
    by_cases hC : c < 240
    · rcases q1 with ⟨rfl, b1⟩ | ⟨x1, g1, m1, n1, rfl⟩
      · have hrd := read_no hb (fun r w h => by
          have hi := hinv r w h
          rcases hi with h | ⟨_, _, y1, z1, h1⟩ | ⟨_, _, y1, y2, z1, z2, h1, h2, _, _⟩ | ⟨_, _, y1, y2, y3, z1, z2, z3, h1, h2, h3, _, _⟩
          · omega
          · first | exact b1 _ z1 h1 | omega
          · first | exact b1 _ z1 h1 | omega
          · first | exact b1 _ z1 h1 | omega)
        rw [hrd]
        clear hrd
        clear hinv q2 q3
        clear b1
        have f0 : decide ((c : Int) < 128) = false := by simp; omega
        have f1 : decide ((192 : Int) ≤ c) = true := by simp; omega
        have f2 : decide ((c : Int) < 224) = false := by simp; omega
        have f3 : decide ((224 : Int) ≤ c) = true := by simp; omega
        have f4 : decide ((c : Int) < 240) = true := by simp; omega
        have f5 : decide ((240 : Int) ≤ c) = false := by simp; omega
        have f6 : decide ((c : Int) < 248) = true := by simp; omega
        have e1 : IntKind.i64.wrap ((c : Int) - 224) = (c : Int) - 224 := IntWalk.i64_in _ (by omega)
        go_enter Try.func82, Try.ntmps82
        go_wp2
        refine wp_loop_rounds 4 ?_
        repeat any_goals (rw [rounds_succ]; go_wp2_with (first | (go_at_call_of 95 (1 : Int); refine (k1 _).mono ?_; rintro e w' ⟨rfl, rfl⟩) | (go_at_call_of 95 (2 : Int); refine (k2 _).mono ?_; rintro e w' ⟨rfl, rfl⟩) | (go_at_call_of 95 (3 : Int); refine (k3 _).mono ?_; rintro e w' ⟨rfl, rfl⟩)))
        all_goals (try rw [Exit.noGoto_ret])
        all_goals go_returns
        exact ⟨rfl, rfl⟩
      · have e2 : IntKind.i64.wrap (64 * ((c : Int) - 224)) = 64 * ((c : Int) - 224) := IntWalk.i64_in _ (by omega)
        have e3 : IntKind.i64.wrap (64 * ((c : Int) - 224) + ((x1 : Int) - 128)) = 64 * ((c : Int) - 224) + ((x1 : Int) - 128) := IntWalk.i64_in _ (by omega)
        have t0 : decide ((x1 : Int) - 128 < 0) = false := by simp; omega
        rcases q2 with ⟨rfl, b2⟩ | ⟨x2, g2, m2, n2, rfl⟩
        · have hrd := read_no hb (fun r w h => by
            have hi := hinv r w h
            rcases hi with h | ⟨_, _, y1, z1, h1⟩ | ⟨_, _, y1, y2, z1, z2, h1, h2, _, _⟩ | ⟨_, _, y1, y2, y3, z1, z2, z3, h1, h2, h3, _, _⟩
            · omega
            · first | exact b2 _ z2 h2 | omega
            · first | exact b2 _ z2 h2 | omega
            · first | exact b2 _ z2 h2 | omega)
          rw [hrd]
          clear hrd
          clear hinv q3
          clear b2
          have f0 : decide ((c : Int) < 128) = false := by simp; omega
          have f1 : decide ((192 : Int) ≤ c) = true := by simp; omega
          have f2 : decide ((c : Int) < 224) = false := by simp; omega
          have f3 : decide ((224 : Int) ≤ c) = true := by simp; omega
          have f4 : decide ((c : Int) < 240) = true := by simp; omega
          have f5 : decide ((240 : Int) ≤ c) = false := by simp; omega
          have f6 : decide ((c : Int) < 248) = true := by simp; omega
          have e1 : IntKind.i64.wrap ((c : Int) - 224) = (c : Int) - 224 := IntWalk.i64_in _ (by omega)
          go_enter Try.func82, Try.ntmps82
          go_wp2
          refine wp_loop_rounds 4 ?_
          repeat any_goals (rw [rounds_succ]; go_wp2_with (first | (go_at_call_of 95 (1 : Int); refine (k1 _).mono ?_; rintro e w' ⟨rfl, rfl⟩) | (go_at_call_of 95 (2 : Int); refine (k2 _).mono ?_; rintro e w' ⟨rfl, rfl⟩) | (go_at_call_of 95 (3 : Int); refine (k3 _).mono ?_; rintro e w' ⟨rfl, rfl⟩)))
          all_goals (try rw [Exit.noGoto_ret])
          all_goals go_returns
          exact ⟨rfl, rfl⟩
        · have e4 : IntKind.i64.wrap (64 * (64 * ((c : Int) - 224) + ((x1 : Int) - 128))) = 64 * (64 * ((c : Int) - 224) + ((x1 : Int) - 128)) := IntWalk.i64_in _ (by omega)
          have e5 : IntKind.i64.wrap (64 * (64 * ((c : Int) - 224) + ((x1 : Int) - 128)) + ((x2 : Int) - 128)) = 64 * (64 * ((c : Int) - 224) + ((x1 : Int) - 128)) + ((x2 : Int) - 128) := IntWalk.i64_in _ (by omega)
          have t1 : decide ((x2 : Int) - 128 < 0) = false := by simp; omega
          obtain ⟨R, hR⟩ : ∃ R : Nat, R = (c - 224) * 4096 + (x1 - 128) * 64 + (x2 - 128) := ⟨_, rfl⟩
          have hRi : 64 * (64 * ((c : Int) - 224) + ((x1 : Int) - 128)) + ((x2 : Int) - 128) = (R : Int) := by omega
          by_cases hz : R < 2048
          · have hrd := read_no hb (fun r w h => by
              have hi := hinv r w h
              rcases hi with h | ⟨_, _, y1, z1, h1⟩ | ⟨_, _, y1, y2, z1, z2, h1, h2, _, _⟩ | ⟨_, _, y1, y2, y3, z1, z2, z3, h1, h2, h3, _, _⟩
              · omega
              · omega
              · rw [g1] at z1; rw [g2] at z2; cases z1; cases z2; omega
              · omega
            )
            rw [hrd]
            clear hrd
            have r0 : decide ((R : Int) < 2048) = true := by simp; omega
            clear hR hz
            clear hinv q3
            have f0 : decide ((c : Int) < 128) = false := by simp; omega
            have f1 : decide ((192 : Int) ≤ c) = true := by simp; omega
            have f2 : decide ((c : Int) < 224) = false := by simp; omega
            have f3 : decide ((224 : Int) ≤ c) = true := by simp; omega
            have f4 : decide ((c : Int) < 240) = true := by simp; omega
            have f5 : decide ((240 : Int) ≤ c) = false := by simp; omega
            have f6 : decide ((c : Int) < 248) = true := by simp; omega
            have e1 : IntKind.i64.wrap ((c : Int) - 224) = (c : Int) - 224 := IntWalk.i64_in _ (by omega)
            go_enter Try.func82, Try.ntmps82
            go_wp2
            refine wp_loop_rounds 4 ?_
            repeat any_goals (rw [rounds_succ]; go_wp2_with (first | (go_at_call_of 95 (1 : Int); refine (k1 _).mono ?_; rintro e w' ⟨rfl, rfl⟩) | (go_at_call_of 95 (2 : Int); refine (k2 _).mono ?_; rintro e w' ⟨rfl, rfl⟩) | (go_at_call_of 95 (3 : Int); refine (k3 _).mono ?_; rintro e w' ⟨rfl, rfl⟩)))
            all_goals (try rw [Exit.noGoto_ret])
            all_goals go_returns
            exact ⟨rfl, rfl⟩
          by_cases hs : 55296 ≤ R ∧ R ≤ 57343
          · have hrd := read_no hb (fun r w h => by
              have hi := hinv r w h
              rcases hi with h | ⟨_, _, y1, z1, h1⟩ | ⟨_, _, y1, y2, z1, z2, h1, h2, _, _⟩ | ⟨_, _, y1, y2, y3, z1, z2, z3, h1, h2, h3, _, _⟩
              · omega
              · omega
              · rw [g1] at z1; rw [g2] at z2; cases z1; cases z2; omega
              · omega
            )
            rw [hrd]
            clear hrd
            have r0 : decide ((R : Int) < 2048) = false := by simp; omega
            have r1 : decide ((1114111 : Int) < R) = false := by simp; omega
            have r2 : decide ((55296 : Int) ≤ R) = true := by simp; omega
            have r3 : decide ((R : Int) ≤ 57343) = true := by simp; omega
            clear hR hz hs
            clear hinv q3
            have f0 : decide ((c : Int) < 128) = false := by simp; omega
            have f1 : decide ((192 : Int) ≤ c) = true := by simp; omega
            have f2 : decide ((c : Int) < 224) = false := by simp; omega
            have f3 : decide ((224 : Int) ≤ c) = true := by simp; omega
            have f4 : decide ((c : Int) < 240) = true := by simp; omega
            have f5 : decide ((240 : Int) ≤ c) = false := by simp; omega
            have f6 : decide ((c : Int) < 248) = true := by simp; omega
            have e1 : IntKind.i64.wrap ((c : Int) - 224) = (c : Int) - 224 := IntWalk.i64_in _ (by omega)
            go_enter Try.func82, Try.ntmps82
            go_wp2
            refine wp_loop_rounds 4 ?_
            repeat any_goals (rw [rounds_succ]; go_wp2_with (first | (go_at_call_of 95 (1 : Int); refine (k1 _).mono ?_; rintro e w' ⟨rfl, rfl⟩) | (go_at_call_of 95 (2 : Int); refine (k2 _).mono ?_; rintro e w' ⟨rfl, rfl⟩) | (go_at_call_of 95 (3 : Int); refine (k3 _).mono ?_; rintro e w' ⟨rfl, rfl⟩)))
            all_goals (try rw [Exit.noGoto_ret])
            all_goals go_returns
            exact ⟨rfl, rfl⟩
          by_cases hs2 : 55296 ≤ R
          · have hru := read_yes (rune_3 h0 g1 g2 (by omega) (by omega) m1 n1 m2 n2 (by omega) (by omega))
            rw [hru, ← hR]
            clear hru
            have r0 : decide ((R : Int) < 2048) = false := by simp; omega
            have r1 : decide ((1114111 : Int) < R) = false := by simp; omega
            have r2 : decide ((55296 : Int) ≤ R) = true := by simp; omega
            have r3 : decide ((R : Int) ≤ 57343) = false := by simp; omega
            clear hR hz hs hs2
            clear hinv q3
            have f0 : decide ((c : Int) < 128) = false := by simp; omega
            have f1 : decide ((192 : Int) ≤ c) = true := by simp; omega
            have f2 : decide ((c : Int) < 224) = false := by simp; omega
            have f3 : decide ((224 : Int) ≤ c) = true := by simp; omega
            have f4 : decide ((c : Int) < 240) = true := by simp; omega
            have f5 : decide ((240 : Int) ≤ c) = false := by simp; omega
            have f6 : decide ((c : Int) < 248) = true := by simp; omega
            have e1 : IntKind.i64.wrap ((c : Int) - 224) = (c : Int) - 224 := IntWalk.i64_in _ (by omega)
            go_enter Try.func82, Try.ntmps82
            go_wp2
            refine wp_loop_rounds 4 ?_
            repeat any_goals (rw [rounds_succ]; go_wp2_with (first | (go_at_call_of 95 (1 : Int); refine (k1 _).mono ?_; rintro e w' ⟨rfl, rfl⟩) | (go_at_call_of 95 (2 : Int); refine (k2 _).mono ?_; rintro e w' ⟨rfl, rfl⟩) | (go_at_call_of 95 (3 : Int); refine (k3 _).mono ?_; rintro e w' ⟨rfl, rfl⟩)))
            all_goals (try rw [Exit.noGoto_ret])
            all_goals go_returns
            exact ⟨rfl, rfl⟩
          · have hru := read_yes (rune_3 h0 g1 g2 (by omega) (by omega) m1 n1 m2 n2 (by omega) (by omega))
            rw [hru, ← hR]
            clear hru
            have r0 : decide ((R : Int) < 2048) = false := by simp; omega
            have r1 : decide ((1114111 : Int) < R) = false := by simp; omega
            have r2 : decide ((55296 : Int) ≤ R) = false := by simp; omega
            clear hR hz hs hs2
            clear hinv q3
            have f0 : decide ((c : Int) < 128) = false := by simp; omega
            have f1 : decide ((192 : Int) ≤ c) = true := by simp; omega
            have f2 : decide ((c : Int) < 224) = false := by simp; omega
            have f3 : decide ((224 : Int) ≤ c) = true := by simp; omega
            have f4 : decide ((c : Int) < 240) = true := by simp; omega
            have f5 : decide ((240 : Int) ≤ c) = false := by simp; omega
            have f6 : decide ((c : Int) < 248) = true := by simp; omega
            have e1 : IntKind.i64.wrap ((c : Int) - 224) = (c : Int) - 224 := IntWalk.i64_in _ (by omega)
            go_enter Try.func82, Try.ntmps82
            go_wp2
            refine wp_loop_rounds 4 ?_
            repeat any_goals (rw [rounds_succ]; go_wp2_with (first | (go_at_call_of 95 (1 : Int); refine (k1 _).mono ?_; rintro e w' ⟨rfl, rfl⟩) | (go_at_call_of 95 (2 : Int); refine (k2 _).mono ?_; rintro e w' ⟨rfl, rfl⟩) | (go_at_call_of 95 (3 : Int); refine (k3 _).mono ?_; rintro e w' ⟨rfl, rfl⟩)))
            all_goals (try rw [Exit.noGoto_ret])
            all_goals go_returns
            exact ⟨rfl, rfl⟩
    by_cases hD : c < 248
    · rcases q1 with ⟨rfl, b1⟩ | ⟨x1, g1, m1, n1, rfl⟩
      · have hrd := read_no hb (fun r w h => by
          have hi := hinv r w h
          rcases hi with h | ⟨_, _, y1, z1, h1⟩ | ⟨_, _, y1, y2, z1, z2, h1, h2, _, _⟩ | ⟨_, _, y1, y2, y3, z1, z2, z3, h1, h2, h3, _, _⟩
          · omega
          · first | exact b1 _ z1 h1 | omega
          · first | exact b1 _ z1 h1 | omega
          · first | exact b1 _ z1 h1 | omega)
        rw [hrd]
        clear hrd
        clear hinv q2 q3
        clear b1
        have f0 : decide ((c : Int) < 128) = false := by simp; omega
        have f1 : decide ((192 : Int) ≤ c) = true := by simp; omega
        have f2 : decide ((c : Int) < 224) = false := by simp; omega
        have f3 : decide ((224 : Int) ≤ c) = true := by simp; omega
        have f4 : decide ((c : Int) < 240) = false := by simp; omega
        have f5 : decide ((240 : Int) ≤ c) = true := by simp; omega
        have f6 : decide ((c : Int) < 248) = true := by simp; omega
        have e1 : IntKind.i64.wrap ((c : Int) - 240) = (c : Int) - 240 := IntWalk.i64_in _ (by omega)
        go_enter Try.func82, Try.ntmps82
        go_wp2
        refine wp_loop_rounds 4 ?_
        repeat any_goals (rw [rounds_succ]; go_wp2_with (first | (go_at_call_of 95 (1 : Int); refine (k1 _).mono ?_; rintro e w' ⟨rfl, rfl⟩) | (go_at_call_of 95 (2 : Int); refine (k2 _).mono ?_; rintro e w' ⟨rfl, rfl⟩) | (go_at_call_of 95 (3 : Int); refine (k3 _).mono ?_; rintro e w' ⟨rfl, rfl⟩)))
        all_goals (try rw [Exit.noGoto_ret])
        all_goals go_returns
        exact ⟨rfl, rfl⟩
      · have e2 : IntKind.i64.wrap (64 * ((c : Int) - 240)) = 64 * ((c : Int) - 240) := IntWalk.i64_in _ (by omega)
        have e3 : IntKind.i64.wrap (64 * ((c : Int) - 240) + ((x1 : Int) - 128)) = 64 * ((c : Int) - 240) + ((x1 : Int) - 128) := IntWalk.i64_in _ (by omega)
        have t0 : decide ((x1 : Int) - 128 < 0) = false := by simp; omega
        rcases q2 with ⟨rfl, b2⟩ | ⟨x2, g2, m2, n2, rfl⟩
        · have hrd := read_no hb (fun r w h => by
            have hi := hinv r w h
            rcases hi with h | ⟨_, _, y1, z1, h1⟩ | ⟨_, _, y1, y2, z1, z2, h1, h2, _, _⟩ | ⟨_, _, y1, y2, y3, z1, z2, z3, h1, h2, h3, _, _⟩
            · omega
            · first | exact b2 _ z2 h2 | omega
            · first | exact b2 _ z2 h2 | omega
            · first | exact b2 _ z2 h2 | omega)
          rw [hrd]
          clear hrd
          clear hinv q3
          clear b2
          have f0 : decide ((c : Int) < 128) = false := by simp; omega
          have f1 : decide ((192 : Int) ≤ c) = true := by simp; omega
          have f2 : decide ((c : Int) < 224) = false := by simp; omega
          have f3 : decide ((224 : Int) ≤ c) = true := by simp; omega
          have f4 : decide ((c : Int) < 240) = false := by simp; omega
          have f5 : decide ((240 : Int) ≤ c) = true := by simp; omega
          have f6 : decide ((c : Int) < 248) = true := by simp; omega
          have e1 : IntKind.i64.wrap ((c : Int) - 240) = (c : Int) - 240 := IntWalk.i64_in _ (by omega)
          go_enter Try.func82, Try.ntmps82
          go_wp2
          refine wp_loop_rounds 4 ?_
          repeat any_goals (rw [rounds_succ]; go_wp2_with (first | (go_at_call_of 95 (1 : Int); refine (k1 _).mono ?_; rintro e w' ⟨rfl, rfl⟩) | (go_at_call_of 95 (2 : Int); refine (k2 _).mono ?_; rintro e w' ⟨rfl, rfl⟩) | (go_at_call_of 95 (3 : Int); refine (k3 _).mono ?_; rintro e w' ⟨rfl, rfl⟩)))
          all_goals (try rw [Exit.noGoto_ret])
          all_goals go_returns
          exact ⟨rfl, rfl⟩
        · have e4 : IntKind.i64.wrap (64 * (64 * ((c : Int) - 240) + ((x1 : Int) - 128))) = 64 * (64 * ((c : Int) - 240) + ((x1 : Int) - 128)) := IntWalk.i64_in _ (by omega)
          have e5 : IntKind.i64.wrap (64 * (64 * ((c : Int) - 240) + ((x1 : Int) - 128)) + ((x2 : Int) - 128)) = 64 * (64 * ((c : Int) - 240) + ((x1 : Int) - 128)) + ((x2 : Int) - 128) := IntWalk.i64_in _ (by omega)
          have t1 : decide ((x2 : Int) - 128 < 0) = false := by simp; omega
          rcases q3 with ⟨rfl, b3⟩ | ⟨x3, g3, m3, n3, rfl⟩
          · have hrd := read_no hb (fun r w h => by
              have hi := hinv r w h
              rcases hi with h | ⟨_, _, y1, z1, h1⟩ | ⟨_, _, y1, y2, z1, z2, h1, h2, _, _⟩ | ⟨_, _, y1, y2, y3, z1, z2, z3, h1, h2, h3, _, _⟩
              · omega
              · first | exact b3 _ z3 h3 | omega
              · first | exact b3 _ z3 h3 | omega
              · first | exact b3 _ z3 h3 | omega)
            rw [hrd]
            clear hrd
            clear hinv
            clear b3
            have f0 : decide ((c : Int) < 128) = false := by simp; omega
            have f1 : decide ((192 : Int) ≤ c) = true := by simp; omega
            have f2 : decide ((c : Int) < 224) = false := by simp; omega
            have f3 : decide ((224 : Int) ≤ c) = true := by simp; omega
            have f4 : decide ((c : Int) < 240) = false := by simp; omega
            have f5 : decide ((240 : Int) ≤ c) = true := by simp; omega
            have f6 : decide ((c : Int) < 248) = true := by simp; omega
            have e1 : IntKind.i64.wrap ((c : Int) - 240) = (c : Int) - 240 := IntWalk.i64_in _ (by omega)
            go_enter Try.func82, Try.ntmps82
            go_wp2
            refine wp_loop_rounds 4 ?_
            repeat any_goals (rw [rounds_succ]; go_wp2_with (first | (go_at_call_of 95 (1 : Int); refine (k1 _).mono ?_; rintro e w' ⟨rfl, rfl⟩) | (go_at_call_of 95 (2 : Int); refine (k2 _).mono ?_; rintro e w' ⟨rfl, rfl⟩) | (go_at_call_of 95 (3 : Int); refine (k3 _).mono ?_; rintro e w' ⟨rfl, rfl⟩)))
            all_goals (try rw [Exit.noGoto_ret])
            all_goals go_returns
            exact ⟨rfl, rfl⟩
          · have e6 : IntKind.i64.wrap (64 * (64 * (64 * ((c : Int) - 240) + ((x1 : Int) - 128)) + ((x2 : Int) - 128))) = 64 * (64 * (64 * ((c : Int) - 240) + ((x1 : Int) - 128)) + ((x2 : Int) - 128)) := IntWalk.i64_in _ (by omega)
            have e7 : IntKind.i64.wrap (64 * (64 * (64 * ((c : Int) - 240) + ((x1 : Int) - 128)) + ((x2 : Int) - 128)) + ((x3 : Int) - 128)) = 64 * (64 * (64 * ((c : Int) - 240) + ((x1 : Int) - 128)) + ((x2 : Int) - 128)) + ((x3 : Int) - 128) := IntWalk.i64_in _ (by omega)
            have t2 : decide ((x3 : Int) - 128 < 0) = false := by simp; omega
            obtain ⟨R, hR⟩ : ∃ R : Nat, R = (c - 240) * 262144 + (x1 - 128) * 4096 + (x2 - 128) * 64 + (x3 - 128) := ⟨_, rfl⟩
            have hRi : 64 * (64 * (64 * ((c : Int) - 240) + ((x1 : Int) - 128)) + ((x2 : Int) - 128)) + ((x3 : Int) - 128) = (R : Int) := by omega
            by_cases hz : R < 65536
            · have hrd := read_no hb (fun r w h => by
                have hi := hinv r w h
                rcases hi with h | ⟨_, _, y1, z1, h1⟩ | ⟨_, _, y1, y2, z1, z2, h1, h2, _, _⟩ | ⟨_, _, y1, y2, y3, z1, z2, z3, h1, h2, h3, _, _⟩
                · omega
                · omega
                · omega
                · rw [g1] at z1; rw [g2] at z2; rw [g3] at z3; cases z1; cases z2; cases z3; omega
              )
              rw [hrd]
              clear hrd
              have r0 : decide ((R : Int) < 65536) = true := by simp; omega
              clear hR hz
              clear hinv
              have f0 : decide ((c : Int) < 128) = false := by simp; omega
              have f1 : decide ((192 : Int) ≤ c) = true := by simp; omega
              have f2 : decide ((c : Int) < 224) = false := by simp; omega
              have f3 : decide ((224 : Int) ≤ c) = true := by simp; omega
              have f4 : decide ((c : Int) < 240) = false := by simp; omega
              have f5 : decide ((240 : Int) ≤ c) = true := by simp; omega
              have f6 : decide ((c : Int) < 248) = true := by simp; omega
              have e1 : IntKind.i64.wrap ((c : Int) - 240) = (c : Int) - 240 := IntWalk.i64_in _ (by omega)
              go_enter Try.func82, Try.ntmps82
              go_wp2
              refine wp_loop_rounds 4 ?_
              repeat any_goals (rw [rounds_succ]; go_wp2_with (first | (go_at_call_of 95 (1 : Int); refine (k1 _).mono ?_; rintro e w' ⟨rfl, rfl⟩) | (go_at_call_of 95 (2 : Int); refine (k2 _).mono ?_; rintro e w' ⟨rfl, rfl⟩) | (go_at_call_of 95 (3 : Int); refine (k3 _).mono ?_; rintro e w' ⟨rfl, rfl⟩)))
              all_goals (try rw [Exit.noGoto_ret])
              all_goals go_returns
              exact ⟨rfl, rfl⟩
            by_cases hs : 1114111 < R
            · have hrd := read_no hb (fun r w h => by
                have hi := hinv r w h
                rcases hi with h | ⟨_, _, y1, z1, h1⟩ | ⟨_, _, y1, y2, z1, z2, h1, h2, _, _⟩ | ⟨_, _, y1, y2, y3, z1, z2, z3, h1, h2, h3, _, _⟩
                · omega
                · omega
                · omega
                · rw [g1] at z1; rw [g2] at z2; rw [g3] at z3; cases z1; cases z2; cases z3; omega
              )
              rw [hrd]
              clear hrd
              have r0 : decide ((R : Int) < 65536) = false := by simp; omega
              have r1 : decide ((1114111 : Int) < R) = true := by simp; omega
              clear hR hz hs
              clear hinv
              have f0 : decide ((c : Int) < 128) = false := by simp; omega
              have f1 : decide ((192 : Int) ≤ c) = true := by simp; omega
              have f2 : decide ((c : Int) < 224) = false := by simp; omega
              have f3 : decide ((224 : Int) ≤ c) = true := by simp; omega
              have f4 : decide ((c : Int) < 240) = false := by simp; omega
              have f5 : decide ((240 : Int) ≤ c) = true := by simp; omega
              have f6 : decide ((c : Int) < 248) = true := by simp; omega
              have e1 : IntKind.i64.wrap ((c : Int) - 240) = (c : Int) - 240 := IntWalk.i64_in _ (by omega)
              go_enter Try.func82, Try.ntmps82
              go_wp2
              refine wp_loop_rounds 4 ?_
              repeat any_goals (rw [rounds_succ]; go_wp2_with (first | (go_at_call_of 95 (1 : Int); refine (k1 _).mono ?_; rintro e w' ⟨rfl, rfl⟩) | (go_at_call_of 95 (2 : Int); refine (k2 _).mono ?_; rintro e w' ⟨rfl, rfl⟩) | (go_at_call_of 95 (3 : Int); refine (k3 _).mono ?_; rintro e w' ⟨rfl, rfl⟩)))
              all_goals (try rw [Exit.noGoto_ret])
              all_goals go_returns
              exact ⟨rfl, rfl⟩
            · have hru := read_yes (rune_4 h0 g1 g2 g3 (by omega) (by omega) m1 n1 m2 n2 m3 n3 (by omega) (by omega))
              rw [hru, ← hR]
              clear hru
              have r0 : decide ((R : Int) < 65536) = false := by simp; omega
              have r1 : decide ((1114111 : Int) < R) = false := by simp; omega
              have r2 : decide ((55296 : Int) ≤ R) = true := by simp; omega
              have r3 : decide ((R : Int) ≤ 57343) = false := by simp; omega
              clear hR hz hs
              clear hinv
              have f0 : decide ((c : Int) < 128) = false := by simp; omega
              have f1 : decide ((192 : Int) ≤ c) = true := by simp; omega
              have f2 : decide ((c : Int) < 224) = false := by simp; omega
              have f3 : decide ((224 : Int) ≤ c) = true := by simp; omega
              have f4 : decide ((c : Int) < 240) = false := by simp; omega
              have f5 : decide ((240 : Int) ≤ c) = true := by simp; omega
              have f6 : decide ((c : Int) < 248) = true := by simp; omega
              have e1 : IntKind.i64.wrap ((c : Int) - 240) = (c : Int) - 240 := IntWalk.i64_in _ (by omega)
              go_enter Try.func82, Try.ntmps82
              go_wp2
              refine wp_loop_rounds 4 ?_
              repeat any_goals (rw [rounds_succ]; go_wp2_with (first | (go_at_call_of 95 (1 : Int); refine (k1 _).mono ?_; rintro e w' ⟨rfl, rfl⟩) | (go_at_call_of 95 (2 : Int); refine (k2 _).mono ?_; rintro e w' ⟨rfl, rfl⟩) | (go_at_call_of 95 (3 : Int); refine (k3 _).mono ?_; rintro e w' ⟨rfl, rfl⟩)))
              all_goals (try rw [Exit.noGoto_ret])
              all_goals go_returns
              exact ⟨rfl, rfl⟩
    · have hrd := read_no hb (fun r w h => by
        have hi := hinv r w h
        omega)
      rw [hrd]
      clear hrd
      have f0 : decide ((c : Int) < 128) = false := by simp; omega
      have f1 : decide ((192 : Int) ≤ c) = true := by simp; omega
      have f2 : decide ((c : Int) < 224) = false := by simp; omega
      have f3 : decide ((224 : Int) ≤ c) = true := by simp; omega
      have f4 : decide ((c : Int) < 240) = false := by simp; omega
      have f5 : decide ((240 : Int) ≤ c) = true := by simp; omega
      have f6 : decide ((c : Int) < 248) = false := by simp; omega
      clear hinv q1 q2 q3
      go_enter Try.func82, Try.ntmps82
      go_wp2
      go_returns
      exact ⟨rfl, rfl⟩
end Go.Proofs.Ytmcjmdoeafhjpaa
