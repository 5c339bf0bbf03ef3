/- NameLong, for every two numbers: how many runes a name may have, of however many bytes each. No conditions. -/
import Derived.Test.YtkndkniimlckeaaNQ
import Derived.WalkKit
import Derived.ProofKit
import Derived.OpenShut
import Derived.ShutString
namespace Go.Proofs.Ytkndkniimlckeaa.nameLong
open Go.ChangeShapes Go.WideShapes Go.ChangeAt Go.RowKit
open Go.ChangeMaps (open_string shut_string)
set_option linter.unusedVariables false
set_option linter.unusedSimpArgs false

theorem own : ownKnob Try.prog.godebug = none := by kernel_rfl

theorem rep_txt {p : List Nat} {r : Nat} (h : Rune p r p.length) : ∀ n : Nat, Txt ((List.replicate n p).flatten) (List.replicate n (r, p))
  | 0 => .nil
  | n + 1 => by
    rw [List.replicate_succ, List.flatten_cons, List.replicate_succ]
    exact .cons p _ r _ h (rep_txt h n)
theorem rep_may (r : Nat) (p : List Nat) (hr : letterB r = true) (n : Nat) : mayC (List.replicate n (r, p)) = decide (1 ≤ n ∧ n ≤ 32) := by
  unfold mayC
  rw [List.length_replicate]
  cases n with
  | zero => simp
  | succ n =>
    have h1 : (List.replicate (n + 1) (r, p)).all (fun c => letterB c.1 || digitB c.1) = true := by
      rw [List.all_eq_true]
      intro c hc
      rw [(List.mem_replicate.1 hc).2, hr]; rfl
    rw [h1, List.replicate_succ, List.headD_cons, hr, Bool.and_true, Bool.and_true]
theorem rep_words (r : Nat) (p : List Nat) (hr : letterB r = true) (n : Nat) : wordsC (List.replicate n (r, p)) [] = if 1 ≤ n ∧ n ≤ 32 then [(List.replicate n (r, p)).flatMap (·.2)] else [] := by
  have := wordsC_app (List.replicate n (r, p)) [] [] (fun c hc => by rw [(List.mem_replicate.1 hc).2, hr]; rfl)
  rw [List.append_nil] at this
  rw [this, wordsC, List.nil_append, endC, rep_may r p hr]
  by_cases h : 1 ≤ n ∧ n ≤ 32 <;> simp [h]
/-- A text of n runes, all the same letter. -/
theorem long_of (x : ByteArray) (r : Nat) (hx : Rune (bt x) r (bt x).length) (hr : letterB r = true) (s : ByteArray) (n : Nat) (hs : bt s = (List.replicate n (bt x)).flatten) :
    mayM (bt s) = decide (1 ≤ n ∧ n ≤ 32) ∧ runM (bt s) = n ∧ (wordsM (bt s)).length = (if 1 ≤ n ∧ n ≤ 32 then 1 else 0) := by
  have ht : Txt (bt s) (List.replicate n (r, bt x)) := by rw [hs]; exact rep_txt hx n
  refine ⟨by rw [ht.mayM, rep_may r _ hr], by rw [ht.runM, List.length_replicate], ?_⟩
  rw [ht.wordsM, rep_words r _ hr]
  split <;> rfl

set_option maxRecDepth 100000 in
set_option maxHeartbeats 16000000 in
theorem walk (a0 : Int) (a1 : Int) (w0 : (Lit.int .i8 a0).wf = true) (w1 : (Lit.int .u8 a1).wf = true) (w : World) :
    Calls Try.prog 8 #[.int .i8 a0, .int .u8 a1] w fun e w' => e = .returned (.bool true) ∧ Below w.heap.size w w' := by
  obtain ⟨o0, o1⟩ := bd_i8 w0
  obtain ⟨u0, u1⟩ := bd_u8 w1
  have hal := fun W => alive_any W
  have htm : a1.tmod 5 = a1 % 5 := Int.tmod_eq_emod_of_nonneg u0
  have h5 : a1 % 5 = 0 ∨ a1 % 5 = 1 ∨ a1 % 5 = 2 ∨ a1 % 5 = 3 ∨ a1 % 5 = 4 := by omega
  have ew : IntKind.i64.wrap (32 + a0) = 32 + a0 := IntWalk.i64_in _ (by omega)
  have ec : IntKind.i64.wrap a0 = a0 := IntWalk.i64_in _ (by omega)
  rcases h5 with h5 | h5 | h5 | h5 | h5
  · have htm2 : a1.tmod 5 = 0 := by rw [htm, h5]
    clear htm
    obtain ⟨N, hN1, hN⟩ : ∃ N : Nat, N ≤ 159 ∧ ((N : Int) = 32 + a0 ∧ 0 ≤ 32 + a0 ∨ (N = 0 ∧ 32 + a0 < 0)) := by
      by_cases h : 0 ≤ 32 + a0
      · exact ⟨(32 + a0).toNat, by omega, .inl ⟨by omega, h⟩⟩
      · exact ⟨0, by omega, .inr ⟨rfl, by omega⟩⟩
    have hru : Rune (bt (⟨#[97]⟩ : ByteArray)) 97 (bt (⟨#[97]⟩ : ByteArray)).length := Rune.one 97 [] (by decide)
    have hle : letterB (97 : Nat) = true := by decide +kernel
    have hxs : (⟨#[97]⟩ : ByteArray).size = 1 := rfl
    have hlg := fun s n hs => long_of (⟨#[97]⟩ : ByteArray) 97 hru hle s n hs
    clear hru hle
    have hmax : max (32 + a0) 0 = (N : Int) := by omega
    go_enter Try.func8, Try.ntmps8
    go_upto_region 3 with fail
    have HB := (Bl.refl w).alloc (Obj.cells #[.string ⟨#[97]⟩, .string ⟨#[95]⟩, .string ⟨#[195, 169]⟩, .string ⟨#[228, 184, 128]⟩, .string ⟨#[240, 159, 152, 128]⟩] 9)
    generalize (w.alloc (Obj.cells #[.string ⟨#[97]⟩, .string ⟨#[95]⟩, .string ⟨#[195, 169]⟩, .string ⟨#[228, 184, 128]⟩, .string ⟨#[240, 159, 152, 128]⟩] 9)) = W0 at HB ⊢
    clear hmax hN ew ec htm2 h5
    go_wp2
    go_loopw [7, 8] (fun s i wr => ∃ (k : Nat) (t : ByteArray), s = .string t ∧ i = .int .i64 k ∧ k ≤ N ∧ bt t = (List.replicate k (bt (⟨#[97]⟩ : ByteArray))).flatten ∧ wr = W0) (fun _ i _ => N - (intOf i).toNat)
    case atStart => exact ⟨0, ⟨#[]⟩, rfl, rfl, by omega, rfl, rfl⟩
    case round =>
      obtain ⟨k, t, rfl, rfl, hk, ht, rfl⟩ := hrel
      have htz : t.size = k * 1 := by rw [← bt_len, ht, List.length_flatten]; simp [bt]
      replace ht : Hid (bt t = (List.replicate k (bt (⟨#[97]⟩ : ByteArray))).flatten) := ht
      by_cases hlt : k < N
      · have hd : decide ((k : Int) < N) = true := by simp; omega
        have e1 : IntKind.i64.wrap ((k : Int) + 1) = (k : Int) + 1 := IntWalk.i64_in _ (by omega)
        have hs1 : ¬ 9223372036854775807 < t.size + 1 := by omega
        replace htz : Hid (t.size = k * 1) := htz
        go_wp2
        exact ⟨⟨k + 1, _, rfl, by simp, by omega, by rw [bt_app, ht.out, List.replicate_succ']; simp, by first | rfl | trivial⟩, by simp [intOf]; omega⟩
      · have hd : decide ((k : Int) < N) = false := by simp; omega
        obtain rfl : k = N := by omega
        have hts : t.size ≤ 1048576 := by omega
        have kw := fun W => words_any t hts W
        have km := fun W => may_any t (by omega) W
        have kr := fun W => runes_any t (by omega) W
        obtain ⟨hq1, hq2, hq3⟩ := hlg t k ht.out
        rw [hq1] at km
        rw [hq2] at kr
        clear hlg hq1 hq2 htz
        by_cases hk1 : 1 ≤ k
        · by_cases hk2 : k ≤ 32
          · have g1 : decide ((1 : Int) ≤ k) = true := by simp; omega
            have g2 : decide ((k : Int) ≤ 32) = true := by simp; omega
            rw [decide_eq_true ⟨hk1, hk2⟩] at km
            rw [if_pos ⟨hk1, hk2⟩] at hq3
            clear hk1 hk2
            go_wp2_with (first | (go_at_call 15; refine (kw _).mono ?_; rintro e w2 ⟨v, X, rfl, hX, hXm, hb2⟩; obtain ⟨p, c, rfl⟩ := hX.shape; replace HB := HB.trans hb2; have hXl := congrArg List.length hXm; rw [List.length_map, hq3] at hXl; replace hXm : True := trivial) | (go_at_call 10; refine (km _).mono ?_; rintro e w3 ⟨rfl, hb3⟩; replace HB := HB.trans hb3) | (go_at_call 12; refine (kr _).mono ?_; rintro e w4 ⟨rfl, hb4⟩; replace HB := HB.trans hb4) | (go_at_call 9; refine (hal _).mono ?_; rintro e w5 ⟨rfl, hb5⟩; replace HB := HB.trans hb5))
            go_returns
            exact ⟨rfl, HB⟩
          · have g1 : decide ((1 : Int) ≤ k) = true := by simp; omega
            have g2 : decide ((k : Int) ≤ 32) = false := by simp; omega
            rw [decide_eq_false (fun h => hk2 h.2)] at km
            rw [if_neg (fun h => hk2 h.2)] at hq3
            clear hk1 hk2
            go_wp2_with (first | (go_at_call 15; refine (kw _).mono ?_; rintro e w2 ⟨v, X, rfl, hX, hXm, hb2⟩; obtain ⟨p, c, rfl⟩ := hX.shape; replace HB := HB.trans hb2; have hXl := congrArg List.length hXm; rw [List.length_map, hq3] at hXl; replace hXm : True := trivial) | (go_at_call 10; refine (km _).mono ?_; rintro e w3 ⟨rfl, hb3⟩; replace HB := HB.trans hb3) | (go_at_call 12; refine (kr _).mono ?_; rintro e w4 ⟨rfl, hb4⟩; replace HB := HB.trans hb4) | (go_at_call 9; refine (hal _).mono ?_; rintro e w5 ⟨rfl, hb5⟩; replace HB := HB.trans hb5))
            go_returns
            exact ⟨rfl, HB⟩
        · have g1 : decide ((1 : Int) ≤ k) = false := by simp; omega
          rw [decide_eq_false (fun h => hk1 h.1)] at km
          rw [if_neg (fun h => hk1 h.1)] at hq3
          clear hk1
          go_wp2_with (first | (go_at_call 15; refine (kw _).mono ?_; rintro e w2 ⟨v, X, rfl, hX, hXm, hb2⟩; obtain ⟨p, c, rfl⟩ := hX.shape; replace HB := HB.trans hb2; have hXl := congrArg List.length hXm; rw [List.length_map, hq3] at hXl; replace hXm : True := trivial) | (go_at_call 10; refine (km _).mono ?_; rintro e w3 ⟨rfl, hb3⟩; replace HB := HB.trans hb3) | (go_at_call 12; refine (kr _).mono ?_; rintro e w4 ⟨rfl, hb4⟩; replace HB := HB.trans hb4) | (go_at_call 9; refine (hal _).mono ?_; rintro e w5 ⟨rfl, hb5⟩; replace HB := HB.trans hb5))
          go_returns
          exact ⟨rfl, HB⟩
  · have htm2 : a1.tmod 5 = 1 := by rw [htm, h5]
    clear htm
    obtain ⟨N, hN1, hN⟩ : ∃ N : Nat, N ≤ 159 ∧ ((N : Int) = 32 + a0 ∧ 0 ≤ 32 + a0 ∨ (N = 0 ∧ 32 + a0 < 0)) := by
      by_cases h : 0 ≤ 32 + a0
      · exact ⟨(32 + a0).toNat, by omega, .inl ⟨by omega, h⟩⟩
      · exact ⟨0, by omega, .inr ⟨rfl, by omega⟩⟩
    have hru : Rune (bt (⟨#[95]⟩ : ByteArray)) 95 (bt (⟨#[95]⟩ : ByteArray)).length := Rune.one 95 [] (by decide)
    have hle : letterB (95 : Nat) = true := by decide +kernel
    have hxs : (⟨#[95]⟩ : ByteArray).size = 1 := rfl
    have hlg := fun s n hs => long_of (⟨#[95]⟩ : ByteArray) 95 hru hle s n hs
    clear hru hle
    have hmax : max (32 + a0) 0 = (N : Int) := by omega
    go_enter Try.func8, Try.ntmps8
    go_upto_region 3 with fail
    have HB := (Bl.refl w).alloc (Obj.cells #[.string ⟨#[97]⟩, .string ⟨#[95]⟩, .string ⟨#[195, 169]⟩, .string ⟨#[228, 184, 128]⟩, .string ⟨#[240, 159, 152, 128]⟩] 9)
    generalize (w.alloc (Obj.cells #[.string ⟨#[97]⟩, .string ⟨#[95]⟩, .string ⟨#[195, 169]⟩, .string ⟨#[228, 184, 128]⟩, .string ⟨#[240, 159, 152, 128]⟩] 9)) = W0 at HB ⊢
    clear hmax hN ew ec htm2 h5
    go_wp2
    go_loopw [7, 8] (fun s i wr => ∃ (k : Nat) (t : ByteArray), s = .string t ∧ i = .int .i64 k ∧ k ≤ N ∧ bt t = (List.replicate k (bt (⟨#[95]⟩ : ByteArray))).flatten ∧ wr = W0) (fun _ i _ => N - (intOf i).toNat)
    case atStart => exact ⟨0, ⟨#[]⟩, rfl, rfl, by omega, rfl, rfl⟩
    case round =>
      obtain ⟨k, t, rfl, rfl, hk, ht, rfl⟩ := hrel
      have htz : t.size = k * 1 := by rw [← bt_len, ht, List.length_flatten]; simp [bt]
      replace ht : Hid (bt t = (List.replicate k (bt (⟨#[95]⟩ : ByteArray))).flatten) := ht
      by_cases hlt : k < N
      · have hd : decide ((k : Int) < N) = true := by simp; omega
        have e1 : IntKind.i64.wrap ((k : Int) + 1) = (k : Int) + 1 := IntWalk.i64_in _ (by omega)
        have hs1 : ¬ 9223372036854775807 < t.size + 1 := by omega
        replace htz : Hid (t.size = k * 1) := htz
        go_wp2
        exact ⟨⟨k + 1, _, rfl, by simp, by omega, by rw [bt_app, ht.out, List.replicate_succ']; simp, by first | rfl | trivial⟩, by simp [intOf]; omega⟩
      · have hd : decide ((k : Int) < N) = false := by simp; omega
        obtain rfl : k = N := by omega
        have hts : t.size ≤ 1048576 := by omega
        have kw := fun W => words_any t hts W
        have km := fun W => may_any t (by omega) W
        have kr := fun W => runes_any t (by omega) W
        obtain ⟨hq1, hq2, hq3⟩ := hlg t k ht.out
        rw [hq1] at km
        rw [hq2] at kr
        clear hlg hq1 hq2 htz
        by_cases hk1 : 1 ≤ k
        · by_cases hk2 : k ≤ 32
          · have g1 : decide ((1 : Int) ≤ k) = true := by simp; omega
            have g2 : decide ((k : Int) ≤ 32) = true := by simp; omega
            rw [decide_eq_true ⟨hk1, hk2⟩] at km
            rw [if_pos ⟨hk1, hk2⟩] at hq3
            clear hk1 hk2
            go_wp2_with (first | (go_at_call 15; refine (kw _).mono ?_; rintro e w2 ⟨v, X, rfl, hX, hXm, hb2⟩; obtain ⟨p, c, rfl⟩ := hX.shape; replace HB := HB.trans hb2; have hXl := congrArg List.length hXm; rw [List.length_map, hq3] at hXl; replace hXm : True := trivial) | (go_at_call 10; refine (km _).mono ?_; rintro e w3 ⟨rfl, hb3⟩; replace HB := HB.trans hb3) | (go_at_call 12; refine (kr _).mono ?_; rintro e w4 ⟨rfl, hb4⟩; replace HB := HB.trans hb4) | (go_at_call 9; refine (hal _).mono ?_; rintro e w5 ⟨rfl, hb5⟩; replace HB := HB.trans hb5))
            go_returns
            exact ⟨rfl, HB⟩
          · have g1 : decide ((1 : Int) ≤ k) = true := by simp; omega
            have g2 : decide ((k : Int) ≤ 32) = false := by simp; omega
            rw [decide_eq_false (fun h => hk2 h.2)] at km
            rw [if_neg (fun h => hk2 h.2)] at hq3
            clear hk1 hk2
            go_wp2_with (first | (go_at_call 15; refine (kw _).mono ?_; rintro e w2 ⟨v, X, rfl, hX, hXm, hb2⟩; obtain ⟨p, c, rfl⟩ := hX.shape; replace HB := HB.trans hb2; have hXl := congrArg List.length hXm; rw [List.length_map, hq3] at hXl; replace hXm : True := trivial) | (go_at_call 10; refine (km _).mono ?_; rintro e w3 ⟨rfl, hb3⟩; replace HB := HB.trans hb3) | (go_at_call 12; refine (kr _).mono ?_; rintro e w4 ⟨rfl, hb4⟩; replace HB := HB.trans hb4) | (go_at_call 9; refine (hal _).mono ?_; rintro e w5 ⟨rfl, hb5⟩; replace HB := HB.trans hb5))
            go_returns
            exact ⟨rfl, HB⟩
        · have g1 : decide ((1 : Int) ≤ k) = false := by simp; omega
          rw [decide_eq_false (fun h => hk1 h.1)] at km
          rw [if_neg (fun h => hk1 h.1)] at hq3
          clear hk1
          go_wp2_with (first | (go_at_call 15; refine (kw _).mono ?_; rintro e w2 ⟨v, X, rfl, hX, hXm, hb2⟩; obtain ⟨p, c, rfl⟩ := hX.shape; replace HB := HB.trans hb2; have hXl := congrArg List.length hXm; rw [List.length_map, hq3] at hXl; replace hXm : True := trivial) | (go_at_call 10; refine (km _).mono ?_; rintro e w3 ⟨rfl, hb3⟩; replace HB := HB.trans hb3) | (go_at_call 12; refine (kr _).mono ?_; rintro e w4 ⟨rfl, hb4⟩; replace HB := HB.trans hb4) | (go_at_call 9; refine (hal _).mono ?_; rintro e w5 ⟨rfl, hb5⟩; replace HB := HB.trans hb5))
          go_returns
          exact ⟨rfl, HB⟩
  · have htm2 : a1.tmod 5 = 2 := by rw [htm, h5]
    clear htm
    obtain ⟨N, hN1, hN⟩ : ∃ N : Nat, N ≤ 159 ∧ ((N : Int) = 32 + a0 ∧ 0 ≤ 32 + a0 ∨ (N = 0 ∧ 32 + a0 < 0)) := by
      by_cases h : 0 ≤ 32 + a0
      · exact ⟨(32 + a0).toNat, by omega, .inl ⟨by omega, h⟩⟩
      · exact ⟨0, by omega, .inr ⟨rfl, by omega⟩⟩
    have hru : Rune (bt (⟨#[195, 169]⟩ : ByteArray)) 233 (bt (⟨#[195, 169]⟩ : ByteArray)).length := Rune.two 195 169 [] (by decide) (by decide) (by decide) (by decide)
    have hle : letterB (233 : Nat) = true := by decide +kernel
    have hxs : (⟨#[195, 169]⟩ : ByteArray).size = 2 := rfl
    have hlg := fun s n hs => long_of (⟨#[195, 169]⟩ : ByteArray) 233 hru hle s n hs
    clear hru hle
    have hmax : max (32 + a0) 0 = (N : Int) := by omega
    go_enter Try.func8, Try.ntmps8
    go_upto_region 3 with fail
    have HB := (Bl.refl w).alloc (Obj.cells #[.string ⟨#[97]⟩, .string ⟨#[95]⟩, .string ⟨#[195, 169]⟩, .string ⟨#[228, 184, 128]⟩, .string ⟨#[240, 159, 152, 128]⟩] 9)
    generalize (w.alloc (Obj.cells #[.string ⟨#[97]⟩, .string ⟨#[95]⟩, .string ⟨#[195, 169]⟩, .string ⟨#[228, 184, 128]⟩, .string ⟨#[240, 159, 152, 128]⟩] 9)) = W0 at HB ⊢
    clear hmax hN ew ec htm2 h5
    go_wp2
    go_loopw [7, 8] (fun s i wr => ∃ (k : Nat) (t : ByteArray), s = .string t ∧ i = .int .i64 k ∧ k ≤ N ∧ bt t = (List.replicate k (bt (⟨#[195, 169]⟩ : ByteArray))).flatten ∧ wr = W0) (fun _ i _ => N - (intOf i).toNat)
    case atStart => exact ⟨0, ⟨#[]⟩, rfl, rfl, by omega, rfl, rfl⟩
    case round =>
      obtain ⟨k, t, rfl, rfl, hk, ht, rfl⟩ := hrel
      have htz : t.size = k * 2 := by rw [← bt_len, ht, List.length_flatten]; simp [bt]
      replace ht : Hid (bt t = (List.replicate k (bt (⟨#[195, 169]⟩ : ByteArray))).flatten) := ht
      by_cases hlt : k < N
      · have hd : decide ((k : Int) < N) = true := by simp; omega
        have e1 : IntKind.i64.wrap ((k : Int) + 1) = (k : Int) + 1 := IntWalk.i64_in _ (by omega)
        have hs1 : ¬ 9223372036854775807 < t.size + 2 := by omega
        replace htz : Hid (t.size = k * 2) := htz
        go_wp2
        exact ⟨⟨k + 1, _, rfl, by simp, by omega, by rw [bt_app, ht.out, List.replicate_succ']; simp, by first | rfl | trivial⟩, by simp [intOf]; omega⟩
      · have hd : decide ((k : Int) < N) = false := by simp; omega
        obtain rfl : k = N := by omega
        have hts : t.size ≤ 1048576 := by omega
        have kw := fun W => words_any t hts W
        have km := fun W => may_any t (by omega) W
        have kr := fun W => runes_any t (by omega) W
        obtain ⟨hq1, hq2, hq3⟩ := hlg t k ht.out
        rw [hq1] at km
        rw [hq2] at kr
        clear hlg hq1 hq2 htz
        by_cases hk1 : 1 ≤ k
        · by_cases hk2 : k ≤ 32
          · have g1 : decide ((1 : Int) ≤ k) = true := by simp; omega
            have g2 : decide ((k : Int) ≤ 32) = true := by simp; omega
            rw [decide_eq_true ⟨hk1, hk2⟩] at km
            rw [if_pos ⟨hk1, hk2⟩] at hq3
            clear hk1 hk2
            go_wp2_with (first | (go_at_call 15; refine (kw _).mono ?_; rintro e w2 ⟨v, X, rfl, hX, hXm, hb2⟩; obtain ⟨p, c, rfl⟩ := hX.shape; replace HB := HB.trans hb2; have hXl := congrArg List.length hXm; rw [List.length_map, hq3] at hXl; replace hXm : True := trivial) | (go_at_call 10; refine (km _).mono ?_; rintro e w3 ⟨rfl, hb3⟩; replace HB := HB.trans hb3) | (go_at_call 12; refine (kr _).mono ?_; rintro e w4 ⟨rfl, hb4⟩; replace HB := HB.trans hb4) | (go_at_call 9; refine (hal _).mono ?_; rintro e w5 ⟨rfl, hb5⟩; replace HB := HB.trans hb5))
            go_returns
            exact ⟨rfl, HB⟩
          · have g1 : decide ((1 : Int) ≤ k) = true := by simp; omega
            have g2 : decide ((k : Int) ≤ 32) = false := by simp; omega
            rw [decide_eq_false (fun h => hk2 h.2)] at km
            rw [if_neg (fun h => hk2 h.2)] at hq3
            clear hk1 hk2
            go_wp2_with (first | (go_at_call 15; refine (kw _).mono ?_; rintro e w2 ⟨v, X, rfl, hX, hXm, hb2⟩; obtain ⟨p, c, rfl⟩ := hX.shape; replace HB := HB.trans hb2; have hXl := congrArg List.length hXm; rw [List.length_map, hq3] at hXl; replace hXm : True := trivial) | (go_at_call 10; refine (km _).mono ?_; rintro e w3 ⟨rfl, hb3⟩; replace HB := HB.trans hb3) | (go_at_call 12; refine (kr _).mono ?_; rintro e w4 ⟨rfl, hb4⟩; replace HB := HB.trans hb4) | (go_at_call 9; refine (hal _).mono ?_; rintro e w5 ⟨rfl, hb5⟩; replace HB := HB.trans hb5))
            go_returns
            exact ⟨rfl, HB⟩
        · have g1 : decide ((1 : Int) ≤ k) = false := by simp; omega
          rw [decide_eq_false (fun h => hk1 h.1)] at km
          rw [if_neg (fun h => hk1 h.1)] at hq3
          clear hk1
          go_wp2_with (first | (go_at_call 15; refine (kw _).mono ?_; rintro e w2 ⟨v, X, rfl, hX, hXm, hb2⟩; obtain ⟨p, c, rfl⟩ := hX.shape; replace HB := HB.trans hb2; have hXl := congrArg List.length hXm; rw [List.length_map, hq3] at hXl; replace hXm : True := trivial) | (go_at_call 10; refine (km _).mono ?_; rintro e w3 ⟨rfl, hb3⟩; replace HB := HB.trans hb3) | (go_at_call 12; refine (kr _).mono ?_; rintro e w4 ⟨rfl, hb4⟩; replace HB := HB.trans hb4) | (go_at_call 9; refine (hal _).mono ?_; rintro e w5 ⟨rfl, hb5⟩; replace HB := HB.trans hb5))
          go_returns
          exact ⟨rfl, HB⟩
  · have htm2 : a1.tmod 5 = 3 := by rw [htm, h5]
    clear htm
    obtain ⟨N, hN1, hN⟩ : ∃ N : Nat, N ≤ 159 ∧ ((N : Int) = 32 + a0 ∧ 0 ≤ 32 + a0 ∨ (N = 0 ∧ 32 + a0 < 0)) := by
      by_cases h : 0 ≤ 32 + a0
      · exact ⟨(32 + a0).toNat, by omega, .inl ⟨by omega, h⟩⟩
      · exact ⟨0, by omega, .inr ⟨rfl, by omega⟩⟩
    have hru : Rune (bt (⟨#[228, 184, 128]⟩ : ByteArray)) 19968 (bt (⟨#[228, 184, 128]⟩ : ByteArray)).length := Rune.three 228 184 128 [] (by decide) (by decide) (by decide) (by decide) (by decide) (by decide) (by decide) (by decide)
    have hle : letterB (19968 : Nat) = true := by decide +kernel
    have hxs : (⟨#[228, 184, 128]⟩ : ByteArray).size = 3 := rfl
    have hlg := fun s n hs => long_of (⟨#[228, 184, 128]⟩ : ByteArray) 19968 hru hle s n hs
    clear hru hle
    have hmax : max (32 + a0) 0 = (N : Int) := by omega
    go_enter Try.func8, Try.ntmps8
    go_upto_region 3 with fail
    have HB := (Bl.refl w).alloc (Obj.cells #[.string ⟨#[97]⟩, .string ⟨#[95]⟩, .string ⟨#[195, 169]⟩, .string ⟨#[228, 184, 128]⟩, .string ⟨#[240, 159, 152, 128]⟩] 9)
    generalize (w.alloc (Obj.cells #[.string ⟨#[97]⟩, .string ⟨#[95]⟩, .string ⟨#[195, 169]⟩, .string ⟨#[228, 184, 128]⟩, .string ⟨#[240, 159, 152, 128]⟩] 9)) = W0 at HB ⊢
    clear hmax hN ew ec htm2 h5
    go_wp2
    go_loopw [7, 8] (fun s i wr => ∃ (k : Nat) (t : ByteArray), s = .string t ∧ i = .int .i64 k ∧ k ≤ N ∧ bt t = (List.replicate k (bt (⟨#[228, 184, 128]⟩ : ByteArray))).flatten ∧ wr = W0) (fun _ i _ => N - (intOf i).toNat)
    case atStart => exact ⟨0, ⟨#[]⟩, rfl, rfl, by omega, rfl, rfl⟩
    case round =>
      obtain ⟨k, t, rfl, rfl, hk, ht, rfl⟩ := hrel
      have htz : t.size = k * 3 := by rw [← bt_len, ht, List.length_flatten]; simp [bt]
      replace ht : Hid (bt t = (List.replicate k (bt (⟨#[228, 184, 128]⟩ : ByteArray))).flatten) := ht
      by_cases hlt : k < N
      · have hd : decide ((k : Int) < N) = true := by simp; omega
        have e1 : IntKind.i64.wrap ((k : Int) + 1) = (k : Int) + 1 := IntWalk.i64_in _ (by omega)
        have hs1 : ¬ 9223372036854775807 < t.size + 3 := by omega
        replace htz : Hid (t.size = k * 3) := htz
        go_wp2
        exact ⟨⟨k + 1, _, rfl, by simp, by omega, by rw [bt_app, ht.out, List.replicate_succ']; simp, by first | rfl | trivial⟩, by simp [intOf]; omega⟩
      · have hd : decide ((k : Int) < N) = false := by simp; omega
        obtain rfl : k = N := by omega
        have hts : t.size ≤ 1048576 := by omega
        have kw := fun W => words_any t hts W
        have km := fun W => may_any t (by omega) W
        have kr := fun W => runes_any t (by omega) W
        obtain ⟨hq1, hq2, hq3⟩ := hlg t k ht.out
        rw [hq1] at km
        rw [hq2] at kr
        clear hlg hq1 hq2 htz
        by_cases hk1 : 1 ≤ k
        · by_cases hk2 : k ≤ 32
          · have g1 : decide ((1 : Int) ≤ k) = true := by simp; omega
            have g2 : decide ((k : Int) ≤ 32) = true := by simp; omega
            rw [decide_eq_true ⟨hk1, hk2⟩] at km
            rw [if_pos ⟨hk1, hk2⟩] at hq3
            clear hk1 hk2
            go_wp2_with (first | (go_at_call 15; refine (kw _).mono ?_; rintro e w2 ⟨v, X, rfl, hX, hXm, hb2⟩; obtain ⟨p, c, rfl⟩ := hX.shape; replace HB := HB.trans hb2; have hXl := congrArg List.length hXm; rw [List.length_map, hq3] at hXl; replace hXm : True := trivial) | (go_at_call 10; refine (km _).mono ?_; rintro e w3 ⟨rfl, hb3⟩; replace HB := HB.trans hb3) | (go_at_call 12; refine (kr _).mono ?_; rintro e w4 ⟨rfl, hb4⟩; replace HB := HB.trans hb4) | (go_at_call 9; refine (hal _).mono ?_; rintro e w5 ⟨rfl, hb5⟩; replace HB := HB.trans hb5))
            go_returns
            exact ⟨rfl, HB⟩
          · have g1 : decide ((1 : Int) ≤ k) = true := by simp; omega
            have g2 : decide ((k : Int) ≤ 32) = false := by simp; omega
            rw [decide_eq_false (fun h => hk2 h.2)] at km
            rw [if_neg (fun h => hk2 h.2)] at hq3
            clear hk1 hk2
            go_wp2_with (first | (go_at_call 15; refine (kw _).mono ?_; rintro e w2 ⟨v, X, rfl, hX, hXm, hb2⟩; obtain ⟨p, c, rfl⟩ := hX.shape; replace HB := HB.trans hb2; have hXl := congrArg List.length hXm; rw [List.length_map, hq3] at hXl; replace hXm : True := trivial) | (go_at_call 10; refine (km _).mono ?_; rintro e w3 ⟨rfl, hb3⟩; replace HB := HB.trans hb3) | (go_at_call 12; refine (kr _).mono ?_; rintro e w4 ⟨rfl, hb4⟩; replace HB := HB.trans hb4) | (go_at_call 9; refine (hal _).mono ?_; rintro e w5 ⟨rfl, hb5⟩; replace HB := HB.trans hb5))
            go_returns
            exact ⟨rfl, HB⟩
        · have g1 : decide ((1 : Int) ≤ k) = false := by simp; omega
          rw [decide_eq_false (fun h => hk1 h.1)] at km
          rw [if_neg (fun h => hk1 h.1)] at hq3
          clear hk1
          go_wp2_with (first | (go_at_call 15; refine (kw _).mono ?_; rintro e w2 ⟨v, X, rfl, hX, hXm, hb2⟩; obtain ⟨p, c, rfl⟩ := hX.shape; replace HB := HB.trans hb2; have hXl := congrArg List.length hXm; rw [List.length_map, hq3] at hXl; replace hXm : True := trivial) | (go_at_call 10; refine (km _).mono ?_; rintro e w3 ⟨rfl, hb3⟩; replace HB := HB.trans hb3) | (go_at_call 12; refine (kr _).mono ?_; rintro e w4 ⟨rfl, hb4⟩; replace HB := HB.trans hb4) | (go_at_call 9; refine (hal _).mono ?_; rintro e w5 ⟨rfl, hb5⟩; replace HB := HB.trans hb5))
          go_returns
          exact ⟨rfl, HB⟩
  · have htm2 : a1.tmod 5 = 4 := by rw [htm, h5]
    clear htm
    obtain ⟨N, hN1, hN⟩ : ∃ N : Nat, N ≤ 159 ∧ ((N : Int) = 32 + a0 ∧ 0 ≤ 32 + a0 ∨ (N = 0 ∧ 32 + a0 < 0)) := by
      by_cases h : 0 ≤ 32 + a0
      · exact ⟨(32 + a0).toNat, by omega, .inl ⟨by omega, h⟩⟩
      · exact ⟨0, by omega, .inr ⟨rfl, by omega⟩⟩
    have hru : Rune (bt (⟨#[240, 159, 152, 128]⟩ : ByteArray)) 128512 (bt (⟨#[240, 159, 152, 128]⟩ : ByteArray)).length := Rune.four 240 159 152 128 [] (by decide) (by decide) (by decide) (by decide) (by decide) (by decide) (by decide) (by decide) (by decide) (by decide)
    have hle : letterB (128512 : Nat) = true := by decide +kernel
    have hxs : (⟨#[240, 159, 152, 128]⟩ : ByteArray).size = 4 := rfl
    have hlg := fun s n hs => long_of (⟨#[240, 159, 152, 128]⟩ : ByteArray) 128512 hru hle s n hs
    clear hru hle
    have hmax : max (32 + a0) 0 = (N : Int) := by omega
    go_enter Try.func8, Try.ntmps8
    go_upto_region 3 with fail
    have HB := (Bl.refl w).alloc (Obj.cells #[.string ⟨#[97]⟩, .string ⟨#[95]⟩, .string ⟨#[195, 169]⟩, .string ⟨#[228, 184, 128]⟩, .string ⟨#[240, 159, 152, 128]⟩] 9)
    generalize (w.alloc (Obj.cells #[.string ⟨#[97]⟩, .string ⟨#[95]⟩, .string ⟨#[195, 169]⟩, .string ⟨#[228, 184, 128]⟩, .string ⟨#[240, 159, 152, 128]⟩] 9)) = W0 at HB ⊢
    clear hmax hN ew ec htm2 h5
    go_wp2
    go_loopw [7, 8] (fun s i wr => ∃ (k : Nat) (t : ByteArray), s = .string t ∧ i = .int .i64 k ∧ k ≤ N ∧ bt t = (List.replicate k (bt (⟨#[240, 159, 152, 128]⟩ : ByteArray))).flatten ∧ wr = W0) (fun _ i _ => N - (intOf i).toNat)
    case atStart => exact ⟨0, ⟨#[]⟩, rfl, rfl, by omega, rfl, rfl⟩
    case round =>
      obtain ⟨k, t, rfl, rfl, hk, ht, rfl⟩ := hrel
      have htz : t.size = k * 4 := by rw [← bt_len, ht, List.length_flatten]; simp [bt]
      replace ht : Hid (bt t = (List.replicate k (bt (⟨#[240, 159, 152, 128]⟩ : ByteArray))).flatten) := ht
      by_cases hlt : k < N
      · have hd : decide ((k : Int) < N) = true := by simp; omega
        have e1 : IntKind.i64.wrap ((k : Int) + 1) = (k : Int) + 1 := IntWalk.i64_in _ (by omega)
        have hs1 : ¬ 9223372036854775807 < t.size + 4 := by omega
        replace htz : Hid (t.size = k * 4) := htz
        go_wp2
        exact ⟨⟨k + 1, _, rfl, by simp, by omega, by rw [bt_app, ht.out, List.replicate_succ']; simp, by first | rfl | trivial⟩, by simp [intOf]; omega⟩
      · have hd : decide ((k : Int) < N) = false := by simp; omega
        obtain rfl : k = N := by omega
        have hts : t.size ≤ 1048576 := by omega
        have kw := fun W => words_any t hts W
        have km := fun W => may_any t (by omega) W
        have kr := fun W => runes_any t (by omega) W
        obtain ⟨hq1, hq2, hq3⟩ := hlg t k ht.out
        rw [hq1] at km
        rw [hq2] at kr
        clear hlg hq1 hq2 htz
        by_cases hk1 : 1 ≤ k
        · by_cases hk2 : k ≤ 32
          · have g1 : decide ((1 : Int) ≤ k) = true := by simp; omega
            have g2 : decide ((k : Int) ≤ 32) = true := by simp; omega
            rw [decide_eq_true ⟨hk1, hk2⟩] at km
            rw [if_pos ⟨hk1, hk2⟩] at hq3
            clear hk1 hk2
            go_wp2_with (first | (go_at_call 15; refine (kw _).mono ?_; rintro e w2 ⟨v, X, rfl, hX, hXm, hb2⟩; obtain ⟨p, c, rfl⟩ := hX.shape; replace HB := HB.trans hb2; have hXl := congrArg List.length hXm; rw [List.length_map, hq3] at hXl; replace hXm : True := trivial) | (go_at_call 10; refine (km _).mono ?_; rintro e w3 ⟨rfl, hb3⟩; replace HB := HB.trans hb3) | (go_at_call 12; refine (kr _).mono ?_; rintro e w4 ⟨rfl, hb4⟩; replace HB := HB.trans hb4) | (go_at_call 9; refine (hal _).mono ?_; rintro e w5 ⟨rfl, hb5⟩; replace HB := HB.trans hb5))
            go_returns
            exact ⟨rfl, HB⟩
          · have g1 : decide ((1 : Int) ≤ k) = true := by simp; omega
            have g2 : decide ((k : Int) ≤ 32) = false := by simp; omega
            rw [decide_eq_false (fun h => hk2 h.2)] at km
            rw [if_neg (fun h => hk2 h.2)] at hq3
            clear hk1 hk2
            go_wp2_with (first | (go_at_call 15; refine (kw _).mono ?_; rintro e w2 ⟨v, X, rfl, hX, hXm, hb2⟩; obtain ⟨p, c, rfl⟩ := hX.shape; replace HB := HB.trans hb2; have hXl := congrArg List.length hXm; rw [List.length_map, hq3] at hXl; replace hXm : True := trivial) | (go_at_call 10; refine (km _).mono ?_; rintro e w3 ⟨rfl, hb3⟩; replace HB := HB.trans hb3) | (go_at_call 12; refine (kr _).mono ?_; rintro e w4 ⟨rfl, hb4⟩; replace HB := HB.trans hb4) | (go_at_call 9; refine (hal _).mono ?_; rintro e w5 ⟨rfl, hb5⟩; replace HB := HB.trans hb5))
            go_returns
            exact ⟨rfl, HB⟩
        · have g1 : decide ((1 : Int) ≤ k) = false := by simp; omega
          rw [decide_eq_false (fun h => hk1 h.1)] at km
          rw [if_neg (fun h => hk1 h.1)] at hq3
          clear hk1
          go_wp2_with (first | (go_at_call 15; refine (kw _).mono ?_; rintro e w2 ⟨v, X, rfl, hX, hXm, hb2⟩; obtain ⟨p, c, rfl⟩ := hX.shape; replace HB := HB.trans hb2; have hXl := congrArg List.length hXm; rw [List.length_map, hq3] at hXl; replace hXm : True := trivial) | (go_at_call 10; refine (km _).mono ?_; rintro e w3 ⟨rfl, hb3⟩; replace HB := HB.trans hb3) | (go_at_call 12; refine (kr _).mono ?_; rintro e w4 ⟨rfl, hb4⟩; replace HB := HB.trans hb4) | (go_at_call 9; refine (hal _).mono ?_; rintro e w5 ⟨rfl, hb5⟩; replace HB := HB.trans hb5))
          go_returns
          exact ⟨rfl, HB⟩

set_option maxRecDepth 100000 in
theorem lifted (os : Os) (started : os.Started) (H : Type) (enc : TypeId × Value → H) :
    ReturnsInHanded {} Try.checked os 8 .any (Rows.nameLongSpec.pre6 enc Try.prog Try.f8 Rows.nameLongRow.domain false) (Rows.nameLongSpec.post enc Try.prog Try.f8 false true false false) := by
  refine returnsInHanded_of_change (C := Try.checked) own started (by kernel_rfl) Try.func8
    (ChangeSpec.witness6 (enc := enc) (C := Try.checked) false ⟨#[], #[.int .i8 0, .int .u8 0], []⟩ 8 (by kernel_rfl) (by kernel_rfl) (by kernel_rfl) (by kernel_rfl)) ?_
  intro W base args ds gs before hval0 hW hcnd _
  have hval : ∀ (j : Nat) t v, Try.f8.params[j]? = some t → args[j]? = some v → Value.okWide Try.prog W .any base t v := hval0
  have hW' := hW
  obtain ⟨p, q, hA0, hV, rfl, hfz, hnd⟩ := hW
  have hA : DataW.TrodAll enc Try.prog W 0 (fun _ => true) true Try.f8.params.toList args.toList ds p := hA0
  rw [Try.params8] at hA hval
  obtain ⟨v0, vs0, d0, ds0, p0, q0, hargs, rfl, rfl, h0, r0⟩ := trodAll_cons hA
  obtain ⟨v1, vs1, d1, ds1, p1, q1, rfl, rfl, rfl, h1, r1⟩ := trodAll_cons r0
  obtain ⟨rfl, rfl, rfl⟩ := trodAll_nil r1
  obtain rfl : args = #[v0, v1] := by cases args; simp_all
  obtain ⟨rfl, rfl⟩ := trodVars_none hV
  obtain ⟨a0, rfl, rfl, rfl, w0⟩ := open_int Try.underlying38 (hval 0 38 v0 rfl rfl) h0
  obtain ⟨a1, rfl, rfl, rfl, w1⟩ := open_int Try.underlying5 (hval 1 5 v1 rfl rfl) h1
  clear hA0 hval0
  simp only [List.append_nil] at hW'
  refine (walk a0 a1 w0 w1 W).mono fun e W' ⟨he, hg⟩ => ?_
  subst he
  exact ⟨_, rfl, post_nil hW' (fun _ _ _ => (trodAll_cons_mk (shut_bool Try.underlying4 _) trodAll_mk0)) (fun sp => (trodAll_cons_mk (shut_int Try.underlying38 w0) (trodAll_cons_mk (shut_int Try.underlying5 w1) trodAll_mk0))) (fun _ => rfl)
    hg (ok_one (by kernel_rfl) rfl (okWide_bool_mk Try.underlying4 _))⟩

theorem over : Rows.nameLongRow.holds Try.pinned (OpenSpec.ofChange Rows.nameLongSpec) :=
  OpenClaim.holds_of_wide 8 Try.f8 rfl rfl rfl rfl rfl rfl rfl ⟨rfl, rfl, rfl, rfl, rfl⟩ rfl rfl rfl rfl rfl (by kernel_rfl) Try.func8 (by kernel_rfl)
    (of_decide_eq_true (by kernel_rfl)) (by unfold Func.isWrapper; first | (rw [if_pos (by decide +kernel)]; kernel_rfl) | (rw [if_neg (by decide +kernel)]; exact ⟨rfl, rfl⟩))
    (fun os started H enc _ => lifted os started H enc)

theorem proved : Rows.NameLongSaid :=
  over
end Go.Proofs.Ytkndkniimlckeaa.nameLong
namespace Go.Proofs.Ytkndkniimlckeaa
theorem nameLong_holds : Rows.NameLongSaid :=
  nameLong.proved
#print axioms nameLong_holds
end Go.Proofs.Ytkndkniimlckeaa
