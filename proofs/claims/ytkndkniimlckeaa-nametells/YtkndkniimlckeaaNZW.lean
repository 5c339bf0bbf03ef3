/- Towards the statements of package name (layer 9): the document's Words. -/
import Derived.Test.YtkndkniimlckeaaNZ
namespace Go.Proofs.Ytkndkniimlckeaa
open Go.ChangeShapes Go.WideShapes Go.ChangeAt Go.RowKit
set_option linter.unusedVariables false
set_option linter.unusedSimpArgs false
set_option maxRecDepth 20000
theorem read_nil : readV [] = .tuple #[.int .i64 (-1), .int .i64 0] := by rw [readV, if_neg (by simp)]
theorem own_gr {W W' : World} {base : Nat} {v : Value} {n : Nat} {xs : List Value} (h : W.ownsRow base 9 1 v n xs) (hb : Bl W W') : W'.ownsRow base 9 1 v n xs :=
  h.kept (row := none) ⟨hb.os, hb.tape, hb.output, hb.size, fun i hi _ => hb.block i hi⟩ (by
    rcases h.2 with ⟨rfl, _⟩ | ⟨g, cap, cur, rfl, _⟩
    · exact .inl rfl
    · exact .inr (by simp [Value.ownBlock]))
set_option maxHeartbeats 4000000 in
theorem rwords_any (s : ByteArray) (hs : s.size ≤ 65536) (w : World) : Calls Try.prog 16 #[.string s] w fun e w' => ∃ v X, e = .returned v ∧ SRow w' v X ∧ X.map bt = wordsM (bt s) ∧ Bl w w' := by
  have kr := fun W => rrunes_any s (by omega) W
  obtain ⟨i9, hi9, hz90, hz91, hz92⟩ := info_parts info9
  cases hc : ch (bt s) with
  | none =>
    have e1 : runM (bt s) = -1 := by rw [runM, hc]
    have e2 : wordsM (bt s) = [] := by rw [wordsM, hc]
    rw [e1] at kr
    rw [e2]
    go_enter Try.func16, Try.ntmps16
    go_wp2_with (first | (go_at_call 13; refine (kr _).mono ?_; rintro e w1 ⟨rfl, hb⟩))
    go_returns
    exact ⟨_, [], rfl, .inl ⟨rfl, rfl⟩, rfl, hb⟩
  | some C =>
    have e1 : runM (bt s) = C.length := by rw [runM, hc]
    have e2 : wordsM (bt s) = wordsC C [] := by rw [wordsM, hc]
    have hT : Txt (bt s) C := (ch_iff (bt_lt s)).1 hc
    rw [e1] at kr
    rw [e2]
    clear hc e1 e2
    have d0 : decide ((C.length : Int) < 0) = false := by simp
    go_enter Try.func16, Try.ntmps16
    go_upto_region 3 with (first | (go_at_call 13; refine (kr _).mono ?_; rintro e w1 ⟨rfl, hb1⟩))
    go_wp2
    go_loopw [3, 4, 5] (fun v wd i wr => ∃ (at_ : Nat) (t : ByteArray) (X : List ByteArray), wd = .string t ∧ i = .int .i64 at_ ∧ wr.ownsRow w.heap.size 9 1 v X.length (X.map .string) ∧ X.length ≤ at_ ∧ t.size ≤ at_ ∧ Bl w wr ∧ at_ ≤ s.size + 1 ∧ (at_ ≤ s.size → ∃ cur D, Txt ((bt s).drop at_) D ∧ Txt (bt t) cur ∧ wordsC C [] = X.map bt ++ wordsC D cur) ∧ (s.size < at_ → X.map bt = wordsC C [])) (fun _ _ i _ => s.size + 1 - (intOf i).toNat)
    case atStart => exact ⟨0, ⟨#[]⟩, [], rfl, rfl, World.ownsRow_nil _ _ _ _, Nat.le_refl _, by decide, hb1, by omega, fun _ => ⟨[], C, hT, .nil, rfl⟩, fun h => by omega⟩
    case round =>
      obtain ⟨at_, t, X, rfl, rfl, hrow, hXa, hta, hb, hat1, hI, hF⟩ := hrel
      by_cases hle : at_ ≤ s.size
      · have hd7 : decide ((at_ : Int) ≤ s.size) = true := by simp; omega
        obtain ⟨cur, D, hD, hcur, hwd⟩ := hI hle
        replace hwd : Hid (wordsC C [] = X.map bt ++ wordsC D cur) := hwd
        have hcf := fun W => cut_from s hle W
        have kread := fun W => read_any (s.extract at_ s.size) W
        rw [bt_rest] at kread
        have kmay := fun W => rmay_any t (by omega) W
        clear hI hF
        by_cases hlt : at_ < s.size
        · have hd8 : decide ((at_ : Int) < s.size) = true := by simp; omega
          obtain ⟨hw1, hw2⟩ := dec_width s hlt
          obtain ⟨D', rfl, hD', ho⟩ := hD.step (bt_drop_ne hlt)
          rw [List.drop_drop] at hD'
          have hru := rune_of (bt_drop_ne hlt) (bt_drop_lt s at_) ho
          rw [read_yes hru] at kread
          have hone : Txt (((bt s).drop at_).take (dec ((bt s).drop at_)).2) [((dec ((bt s).drop at_)).1, ((bt s).drop at_).take (dec ((bt s).drop at_)).2)] := Txt.one (by
            have := hru.take
            have hl := hru.width.2.2
            rwa [List.length_take, Nat.min_eq_left hl])
          have hpc : bt (s.extract at_ (at_ + (dec ((bt s).drop at_)).2)) = ((bt s).drop at_).take (dec ((bt s).drop at_)).2 := by
            rw [bt_ext, Nat.add_sub_cancel_left]
          have hpz : (s.extract at_ (at_ + (dec ((bt s).drop at_)).2)).size = (dec ((bt s).drop at_)).2 := by simp; omega
          have hcm := fun W => cut_mid s (a := at_) (b := at_ + (dec ((bt s).drop at_)).2) (by omega) hw2 W
          generalize ((bt s).drop at_).take (dec ((bt s).drop at_)).2 = pc at hD hwd hone hpc
          generalize (dec ((bt s).drop at_)).1 = r at kread hD hwd hone hru
          generalize (dec ((bt s).drop at_)).2 = wdt at kread hD' hw1 hw2 hpc hcm hru hpz
          have e1 : IntKind.i64.wrap ((at_ : Int) + wdt) = ((at_ + wdt : Nat) : Int) := by rw [IntWalk.i64_in _ (by omega)]; omega
          have e2 : max (wdt : Int) 1 = wdt := by omega
          have e3 : ¬ (wdt : Int) < 1 := by omega
          generalize hA : at_ + wdt = at' at hD' hw2 hpc hcm e1 hpz
          have hA' : at_ < at' := by omega
          replace hA : Hid (at_ + wdt = at') := hA
          generalize hpx : s.extract at_ at' = px at hpc hcm hpz
          have hAo := hA.out
          have hsz : ¬ 9223372036854775807 < t.size + px.size := by omega
          have hlen : t.size + px.size ≤ at' := by omega
          have kl := fun W => rletter_any r W
          have kd := fun W => rdigit_any r W
          cases hq : (letterB (r : Int) || digitB (r : Int)) with
          | true =>
            have hnew : Hid (wordsC C [] = X.map bt ++ wordsC D' (cur ++ [(r, pc)])) := by
              have h := hwd.out
              rw [wordsC, if_pos hq] at h
              exact h
            have hcur' : Txt (bt (t ++ px)) (cur ++ [(r, pc)]) := by rw [bt_app, hpc]; exact hcur.app hone
            replace hq : Hid ((letterB (r : Int) || digitB (r : Int)) = true) := hq
            replace hAo : True := trivial
            replace hpc : True := trivial
            replace hpz : Hid (px.size = wdt) := hpz
            cases h1 : letterB (r : Int) with
            | true =>
              rw [h1] at kl
              go_wp2_with (first | (go_at_call 21; refine (kread _).mono ?_; rintro e v1 ⟨rfl, rfl⟩) | (go_at_call 18; refine (kl _).mono ?_; rintro e v2 ⟨rfl, rfl⟩) | (go_at_call 24; refine (kd _).mono ?_; rintro e v3 ⟨rfl, rfl⟩))
              exact ⟨⟨at', _, X, rfl, rfl, hrow, by omega, by rw [ByteArray.size_append]; exact hlen, hb, by omega, fun _ => ⟨_, D', hD', hcur', hnew.out⟩, fun h => by omega⟩, by simp [intOf]; omega⟩
            | false =>
              have h2 : digitB (r : Int) = true := by have := hq.out; rw [h1] at this; simpa using this
              rw [h1] at kl
              rw [h2] at kd
              go_wp2_with (first | (go_at_call 21; refine (kread _).mono ?_; rintro e v1 ⟨rfl, rfl⟩) | (go_at_call 18; refine (kl _).mono ?_; rintro e v2 ⟨rfl, rfl⟩) | (go_at_call 24; refine (kd _).mono ?_; rintro e v3 ⟨rfl, rfl⟩))
              exact ⟨⟨at', _, X, rfl, rfl, hrow, by omega, by rw [ByteArray.size_append]; exact hlen, hb, by omega, fun _ => ⟨_, D', hD', hcur', hnew.out⟩, fun h => by omega⟩, by simp [intOf]; omega⟩
          | false =>
            have h1 : letterB (r : Int) = false := by simp at hq; exact hq.1
            have h2 : digitB (r : Int) = false := by simp at hq; exact hq.2
            have hnew : Hid (wordsC C [] = (if mayM (bt t) then X ++ [t] else X).map bt ++ wordsC D' []) := words_step C D' cur (r, pc) X t hcur.bytes hwd.out hq hcur.mayM
            rw [h1] at kl
            rw [h2] at kd
            clear hq h1 h2 hwd
            replace hAo : True := trivial
            replace hpc : True := trivial
            replace hpz : Hid (px.size = wdt) := hpz
            cases hm : mayM (bt t) with
            | true =>
              rw [hm] at kmay hnew
              go_wp2_with (first | (go_at_call 21; refine (kread _).mono ?_; rintro e v1 ⟨rfl, rfl⟩) | (go_at_call 18; refine (kl _).mono ?_; rintro e v2 ⟨rfl, rfl⟩) | (go_at_call 24; refine (kd _).mono ?_; rintro e v3 ⟨rfl, rfl⟩) | (go_at_call 11; refine (kmay _).mono ?_; rintro e v4 ⟨rfl, hb4⟩; have hrow4 := own_gr hrow hb4; have hB4 := hb.trans hb4) | (refine wpList_append_own _ rfl _ _ 26 rfl w.heap.size 9 i9 (.string ⟨#[]⟩) 1 16 Try.underlying26 hi9 hz90 hz91 hz92 rfl (by decide) _ _ _ rfl (hrow4.alloc _) _ 1 1 [.string t] rfl rfl (cell_one_new _ _ _) (by simp [Value.oneCell']) (by simp [maxLen]; omega) (by omega) (by have := hB4.size; simp; omega) ?_; intro v' wa hown' hgrow hnil; skip))
              have hbw : Bl w wa := (hB4.alloc (.cells #[.string t] 9)).grown hgrow (by have := hB4.size; simp; omega) (fun k hk => (hrow4.lt k hk).1)
              exact ⟨⟨at', ⟨#[]⟩, X ++ [t], rfl, rfl, by simpa using hown', by simp; omega, Nat.zero_le _, hbw, by omega, fun _ => ⟨[], D', hD', .nil, hnew.out⟩, fun h => by omega⟩, by simp [intOf]; omega⟩
            | false =>
              rw [hm] at kmay hnew
              go_wp2_with (first | (go_at_call 21; refine (kread _).mono ?_; rintro e v1 ⟨rfl, rfl⟩) | (go_at_call 18; refine (kl _).mono ?_; rintro e v2 ⟨rfl, rfl⟩) | (go_at_call 24; refine (kd _).mono ?_; rintro e v3 ⟨rfl, rfl⟩) | (go_at_call 11; refine (kmay _).mono ?_; rintro e v4 ⟨rfl, hb4⟩; have hrow4 := own_gr hrow hb4; have hB4 := hb.trans hb4))
              exact ⟨⟨at', ⟨#[]⟩, X, rfl, rfl, hrow4, by omega, Nat.zero_le _, hB4, by omega, fun _ => ⟨[], D', hD', .nil, hnew.out⟩, fun h => by omega⟩, by simp [intOf]; omega⟩
        · have hEq : at_ = s.size := by omega
          have hd8 : decide ((at_ : Int) < s.size) = false := by simp; omega
          have hd9 : decide (at_ < s.size) = false := by simp; omega
          rw [List.drop_eq_nil_of_le (by rw [bt_len]; omega)] at hD kread
          rw [read_nil] at kread
          obtain rfl := hD.empty
          have hnew : Hid ((if mayM (bt t) then X ++ [t] else X).map bt = wordsC C []) := by
            have h := hwd.out
            rw [wordsC, endC, ← hcur.mayM, ← hcur.bytes] at h
            show _ = wordsC C []
            rw [h]
            split <;> simp
          have e1 : IntKind.i64.wrap ((at_ : Int) + 1) = ((at_ + 1 : Nat) : Int) := by rw [IntWalk.i64_in _ (by omega)]; omega
          have e2 : max (0 : Int) 1 = 1 := by omega
          replace hEq : Hid (at_ = s.size) := hEq
          have hEl : s.size < at_ + 1 := by omega
          have hEm : at_ + 1 ≤ s.size + 1 := by omega
          clear hwd
          cases hm : mayM (bt t) with
          | true =>
            rw [hm] at kmay hnew
            go_wp2_with (first | (go_at_call 21; refine (kread _).mono ?_; rintro e v1 ⟨rfl, rfl⟩) | (go_at_call 11; refine (kmay _).mono ?_; rintro e v4 ⟨rfl, hb4⟩; have hrow4 := own_gr hrow hb4; have hB4 := hb.trans hb4) | (refine wpList_append_own _ rfl _ _ 26 rfl w.heap.size 9 i9 (.string ⟨#[]⟩) 1 16 Try.underlying26 hi9 hz90 hz91 hz92 rfl (by decide) _ _ _ rfl (hrow4.alloc _) _ 1 1 [.string t] rfl rfl (cell_one_new _ _ _) (by simp [Value.oneCell']) (by simp [maxLen]; omega) (by omega) (by have := hB4.size; simp; omega) ?_; intro v' wa hown' hgrow hnil; skip))
            have hbw : Bl w wa := (hB4.alloc (.cells #[.string t] 9)).grown hgrow (by have := hB4.size; simp; omega) (fun k hk => (hrow4.lt k hk).1)
            exact ⟨⟨at_ + 1, ⟨#[]⟩, X ++ [t], rfl, rfl, by simpa using hown', by simp; omega, Nat.zero_le _, hbw, hEm, fun h => by omega, fun _ => hnew.out⟩, by simp [intOf]; omega⟩
          | false =>
            rw [hm] at kmay hnew
            go_wp2_with (first | (go_at_call 21; refine (kread _).mono ?_; rintro e v1 ⟨rfl, rfl⟩) | (go_at_call 11; refine (kmay _).mono ?_; rintro e v4 ⟨rfl, hb4⟩; have hrow4 := own_gr hrow hb4; have hB4 := hb.trans hb4))
            exact ⟨⟨at_ + 1, ⟨#[]⟩, X, rfl, rfl, hrow4, by omega, Nat.zero_le _, hB4, hEm, fun h => by omega, fun _ => hnew.out⟩, by simp [intOf]; omega⟩
      · have hd7 : decide ((at_ : Int) ≤ s.size) = false := by simp; omega
        have hF2 := hF (by omega)
        replace hF2 : Hid (X.map bt = wordsC C []) := hF2
        clear hI hF
        go_wp2
        go_returns
        exact ⟨_, X, rfl, srow_of hrow, hF2.out, hb⟩
end Go.Proofs.Ytkndkniimlckeaa
