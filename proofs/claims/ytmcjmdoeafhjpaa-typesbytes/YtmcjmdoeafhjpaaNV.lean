/- Towards the statements of package name (layer 9): the document's runes of a text, Runes, Letter. -/
import Derived.Test.YtmcjmdoeafhjpaaNU
namespace Go.Proofs.Ytmcjmdoeafhjpaa
open Go.ChangeShapes Go.WideShapes Go.ChangeAt Go.RowKit
set_option linter.unusedVariables false
set_option linter.unusedSimpArgs false
set_option maxRecDepth 20000
theorem cell_of {W : World} {k : Nat} {cs : Array Value} {t : TypeId} {j : Nat} {v : Value} (h : W.heap[k]? = some (.cells cs t)) (hj : cs[j]? = some v) : W.cell? ⟨k, j, none⟩ = some v := by
  unfold World.cell?; rw [h]; exact hj
/-- A row of numbers that lies at v. -/
def IRow (w : World) (v : Value) (R : List Nat) : Prop := (v = .slice none 0 0 ∧ R = []) ∨ ∃ g cap, v = .slice (some ⟨g, 0, none⟩) R.length cap ∧ g < w.heap.size ∧ ∀ (j : Nat) (x : Nat), R[j]? = some x → w.cell? ⟨g, j, none⟩ = some (.int .i64 x)
theorem IRow.gr {w w' : World} {v : Value} {X : List Nat} (h : IRow w v X) (hb : Bl w w') : IRow w' v X := by
  rcases h with h | ⟨g, cap, e, hg, hc⟩
  · exact .inl h
  · exact .inr ⟨g, cap, e, Nat.lt_of_lt_of_le hg hb.size, fun j x hx => (Below.cell hb (p := ⟨g, j, none⟩) hg).trans (hc j x hx)⟩
theorem IRow.shape {w : World} {v : Value} {X : List Nat} (h : IRow w v X) : ∃ p cap, v = .slice p X.length cap := by
  rcases h with ⟨rfl, rfl⟩ | ⟨g, cap, e, _⟩
  · exact ⟨none, 0, rfl⟩
  · exact ⟨_, _, e⟩
theorem IRow.get {w : World} {p : Option Addr} {n c : Nat} {X : List Nat} (h : IRow w (.slice p n c) X) {i : Nat} {x : Nat} (hx : X[i]? = some x) : ∃ g, p = some ⟨g, 0, none⟩ ∧ w.cell? ⟨g, i, none⟩ = some (.int .i64 x) ∧ n = X.length ∧ g < w.heap.size := by
  rcases h with ⟨_, e2⟩ | ⟨g, cap, e, hlt, hc⟩
  · rw [e2] at hx; simp at hx
  · cases e; exact ⟨g, rfl, hc i x hx, rfl, hlt⟩
theorem irow_of {w : World} {base : Nat} {v : Value} {X : List Nat} (h : w.ownsRow base 3 1 v X.length (X.map fun x : Nat => Value.int .i64 x)) : IRow w v X := by
  rcases h.2 with ⟨rfl, h0⟩ | ⟨g, cap, cur, rfl, hb, hg, hn, _, hs, ht⟩
  · exact .inl ⟨rfl, List.eq_nil_of_length_eq_zero h0⟩
  · refine .inr ⟨g, cap, rfl, ch_lt hg, fun j x hx => ?_⟩
    refine cell_of hg ?_
    have h1 : (X.map fun x : Nat => Value.int .i64 x)[j]? = some (.int .i64 x) := by simp [hx]
    rw [← ht, List.getElem?_take] at h1
    split at h1
    · simpa using h1
    · cases h1
theorem info3 : (Try.prog.info? 3).map (fun i => (i.zero, i.size, i.bytes)) = some (some (.int .i64 0), 1, 8) := by kernel_rfl
def allV (l : List Nat) : Option (List Nat) := (ch l).map (·.map (·.1))
/-- What is told of a text's runes. -/
def AllP (o : Option (List Nat)) (e : Ending) (w' : World) : Prop := (o = none → e = .returned (.tuple #[.slice none 0 0, .bool false])) ∧ ∀ R, o = some R → ∃ v, e = .returned (.tuple #[v, .bool true]) ∧ IRow w' v R
set_option maxHeartbeats 2000000 in
theorem all_any (s : ByteArray) (hs : s.size ≤ 1048576) (w : World) : Calls Try.prog 51 #[.string s] w fun e w' => AllP (allV (bt s)) e w' ∧ Bl w w' := by
  obtain ⟨i3, hi3, hz30, hz31, hz32⟩ := info_parts info3
  go_enter Try.func51, Try.ntmps51
  go_wp2
  go_loopw [4, 5] (fun v i wr => ∃ (at_ : Nat) (R : List Nat), i = .int .i64 at_ ∧ at_ ≤ s.size ∧ R.length ≤ at_ ∧ wr.ownsRow w.heap.size 3 1 v R.length (R.map fun x : Nat => Value.int .i64 x) ∧ allV (bt s) = (allV ((bt s).drop at_)).map (R ++ ·) ∧ Bl w wr) (fun _ i _ => s.size - (intOf i).toNat)
  case atStart => exact ⟨0, [], rfl, by omega, Nat.le_refl _, World.ownsRow_nil _ _ _ _, by rw [List.drop_zero]; cases allV (bt s) <;> simp, Bl.refl w⟩
  case round =>
    obtain ⟨at_, R, rfl, hat, hRl, hrow, hA, hb⟩ := hrel
    replace hA : Hid (allV (bt s) = (allV ((bt s).drop at_)).map (R ++ ·)) := hA
    by_cases hlt : at_ < s.size
    · have hd7 : decide ((at_ : Int) < s.size) = true := by simp; omega
      have hcf := fun W => cut_from s hat W
      have kread := fun W => read_any (s.extract at_ s.size) W
      rw [bt_rest] at kread
      cases ho : ok ((bt s).drop at_) with
      | false =>
        have hn : Hid (allV (bt s) = none) := by
          show allV (bt s) = none
          rw [hA.out, allV, ch_bad (bt_drop_ne hlt) ho]; rfl
        rw [readV, if_neg (by rw [ho]; simp)] at kread
        clear hA
        go_wp2_with (first | (go_at_call 82; refine (kread _).mono ?_; rintro e w2 ⟨rfl, rfl⟩))
        try rw [Exit.noGoto_ret]
        go_returns
        exact ⟨⟨fun _ => rfl, fun R h => by rw [hn.out] at h; cases h⟩, hb⟩
      | true =>
        obtain ⟨hw1, hw2⟩ := dec_width s hlt
        rw [readV, if_pos ⟨bt_drop_ne hlt, ho⟩] at kread
        have hn : Hid (allV (bt s) = (allV ((bt s).drop (at_ + (dec ((bt s).drop at_)).2))).map ((R ++ [(dec ((bt s).drop at_)).1]) ++ ·)) := by
          show allV (bt s) = _
          rw [hA.out, allV, ch_ok (bt_drop_lt s at_) (bt_drop_ne hlt) ho, List.drop_drop, allV]
          cases ch ((bt s).drop (at_ + (dec ((bt s).drop at_)).2)) with
          | none => rfl
          | some C => simp
        generalize (dec ((bt s).drop at_)).1 = r at kread hn
        have dr : decide ((r : Int) < 0) = false := by simp
        have e1 : IntKind.i64.wrap ((at_ : Int) + (dec ((bt s).drop at_)).2) = ((at_ + (dec ((bt s).drop at_)).2 : Nat) : Int) := by rw [IntWalk.i64_in _ (by omega)]; omega
        generalize hA2 : at_ + (dec ((bt s).drop at_)).2 = at' at hn hw2 e1
        generalize (dec ((bt s).drop at_)).2 = wd at kread hw1 hA2 e1
        have hA' : at_ < at' := by omega
        replace hA2 : Hid (at_ + wd = at') := hA2
        clear hA ho
        go_wp2_with (first | (go_at_call 82; refine (kread _).mono ?_; rintro e w2 ⟨rfl, rfl⟩) | (refine wpList_append_own _ rfl _ _ 60 rfl w.heap.size 3 i3 (.int .i64 0) 1 8 Try.underlying60 hi3 hz30 hz31 hz32 rfl (by decide) _ _ _ rfl (hrow.alloc _) _ 1 1 [.int .i64 r] rfl rfl (cell_one_new _ _ _) (by simp [Value.oneCell']) (by simp [maxLen]; omega) (by omega) (by have := hb.size; simp; omega) ?_; intro v' wa hown' hgrow hnil; skip))
        have hbw : Bl w wa := (hb.alloc (.cells #[.int .i64 r] 3)).grown hgrow (by have := hb.size; simp; omega) (fun k hk => (hrow.lt k hk).1)
        refine ⟨⟨at', R ++ [r], rfl, hw2, by simp; omega, by simpa using hown', hn.out, hbw⟩, by simp [intOf]; omega⟩
    · have hd7 : decide ((at_ : Int) < s.size) = false := by simp; omega
      have hn : Hid (allV (bt s) = some R) := by
        show allV (bt s) = some R
        rw [hA.out, List.drop_eq_nil_of_le (by rw [bt_len]; omega)]
        simp [allV, ch_nil]
      clear hA
      go_wp2
      go_returns
      exact ⟨⟨fun h => (by rw [hn.out] at h; cases h), fun R' h => (by rw [hn.out] at h; cases h; exact ⟨_, rfl, irow_of hrow⟩)⟩, hb⟩
theorem allV_run (l : List Nat) : runM l = match allV l with | none => -1 | some R => (R.length : Int) := by
  unfold runM allV
  cases ch l <;> simp
theorem rletter_any (r : Int) (w : World) : Calls Try.prog 53 #[.int .i64 r] w fun e w' => e = .returned (.bool (letterB r)) ∧ w' = w := by
  have hr : (r ≤ 64) ∨ (65 ≤ r ∧ r ≤ 90) ∨ (91 ≤ r ∧ r ≤ 94) ∨ (95 ≤ r ∧ r ≤ 95) ∨ (96 ≤ r ∧ r ≤ 96) ∨ (97 ≤ r ∧ r ≤ 122) ∨ (123 ≤ r ∧ r ≤ 191) ∨ (192 ≤ r ∧ r ≤ 214) ∨ (215 ≤ r ∧ r ≤ 215) ∨ (216 ≤ r ∧ r ≤ 246) ∨ (247 ≤ r ∧ r ≤ 247) ∨ (248 ≤ r ∧ r ≤ 55295) ∨ (55296 ≤ r ∧ r ≤ 57343) ∨ (57344 ≤ r ∧ r ≤ 1114111) ∨ (1114112 ≤ r) := by omega
  rcases hr with h | h | h | h | h | h | h | h | h | h | h | h | h | h | h
  · have hv : letterB r = false := by unfold letterB Utf8.valid; rw [Bool.eq_iff_iff]; simp; omega
    have f1 : decide (97 ≤ r) = false := by simp; omega
    have f2 : decide (r ≤ 122) = true := by simp; omega
    have f3 : decide (65 ≤ r) = false := by simp; omega
    have f4 : decide (r ≤ 90) = true := by simp; omega
    have f5 : (r == 95) = false := by simp; omega
    have f6 : decide (192 ≤ r) = false := by simp; omega
    have f7 : (r == 215) = false := by simp; omega
    have f8 : (r == 247) = false := by simp; omega
    have f9 : (r != 215) = true := by simp; omega
    have f10 : (r != 247) = true := by simp; omega
    have f11 : decide (r ≤ 1114111) = true := by simp; omega
    have f12 : decide (r < 55296) = true := by simp; omega
    have f13 : decide (57343 < r) = false := by simp; omega
    rw [hv]
    clear hv h
    go_enter Try.func53, Try.ntmps53
    go_wp2
    go_returns
    exact ⟨rfl, rfl⟩
  · have hv : letterB r = true := by unfold letterB Utf8.valid; rw [Bool.eq_iff_iff]; simp; omega
    have f1 : decide (97 ≤ r) = false := by simp; omega
    have f2 : decide (r ≤ 122) = true := by simp; omega
    have f3 : decide (65 ≤ r) = true := by simp; omega
    have f4 : decide (r ≤ 90) = true := by simp; omega
    have f5 : (r == 95) = false := by simp; omega
    have f6 : decide (192 ≤ r) = false := by simp; omega
    have f7 : (r == 215) = false := by simp; omega
    have f8 : (r == 247) = false := by simp; omega
    have f9 : (r != 215) = true := by simp; omega
    have f10 : (r != 247) = true := by simp; omega
    have f11 : decide (r ≤ 1114111) = true := by simp; omega
    have f12 : decide (r < 55296) = true := by simp; omega
    have f13 : decide (57343 < r) = false := by simp; omega
    rw [hv]
    clear hv h
    go_enter Try.func53, Try.ntmps53
    go_wp2
    go_returns
    exact ⟨rfl, rfl⟩
  · have hv : letterB r = false := by unfold letterB Utf8.valid; rw [Bool.eq_iff_iff]; simp; omega
    have f1 : decide (97 ≤ r) = false := by simp; omega
    have f2 : decide (r ≤ 122) = true := by simp; omega
    have f3 : decide (65 ≤ r) = true := by simp; omega
    have f4 : decide (r ≤ 90) = false := by simp; omega
    have f5 : (r == 95) = false := by simp; omega
    have f6 : decide (192 ≤ r) = false := by simp; omega
    have f7 : (r == 215) = false := by simp; omega
    have f8 : (r == 247) = false := by simp; omega
    have f9 : (r != 215) = true := by simp; omega
    have f10 : (r != 247) = true := by simp; omega
    have f11 : decide (r ≤ 1114111) = true := by simp; omega
    have f12 : decide (r < 55296) = true := by simp; omega
    have f13 : decide (57343 < r) = false := by simp; omega
    rw [hv]
    clear hv h
    go_enter Try.func53, Try.ntmps53
    go_wp2
    go_returns
    exact ⟨rfl, rfl⟩
  · have hv : letterB r = true := by unfold letterB Utf8.valid; rw [Bool.eq_iff_iff]; simp; omega
    have f1 : decide (97 ≤ r) = false := by simp; omega
    have f2 : decide (r ≤ 122) = true := by simp; omega
    have f3 : decide (65 ≤ r) = true := by simp; omega
    have f4 : decide (r ≤ 90) = false := by simp; omega
    have f5 : (r == 95) = true := by simp; omega
    have f6 : decide (192 ≤ r) = false := by simp; omega
    have f7 : (r == 215) = false := by simp; omega
    have f8 : (r == 247) = false := by simp; omega
    have f9 : (r != 215) = true := by simp; omega
    have f10 : (r != 247) = true := by simp; omega
    have f11 : decide (r ≤ 1114111) = true := by simp; omega
    have f12 : decide (r < 55296) = true := by simp; omega
    have f13 : decide (57343 < r) = false := by simp; omega
    rw [hv]
    clear hv h
    go_enter Try.func53, Try.ntmps53
    go_wp2
    go_returns
    exact ⟨rfl, rfl⟩
  · have hv : letterB r = false := by unfold letterB Utf8.valid; rw [Bool.eq_iff_iff]; simp; omega
    have f1 : decide (97 ≤ r) = false := by simp; omega
    have f2 : decide (r ≤ 122) = true := by simp; omega
    have f3 : decide (65 ≤ r) = true := by simp; omega
    have f4 : decide (r ≤ 90) = false := by simp; omega
    have f5 : (r == 95) = false := by simp; omega
    have f6 : decide (192 ≤ r) = false := by simp; omega
    have f7 : (r == 215) = false := by simp; omega
    have f8 : (r == 247) = false := by simp; omega
    have f9 : (r != 215) = true := by simp; omega
    have f10 : (r != 247) = true := by simp; omega
    have f11 : decide (r ≤ 1114111) = true := by simp; omega
    have f12 : decide (r < 55296) = true := by simp; omega
    have f13 : decide (57343 < r) = false := by simp; omega
    rw [hv]
    clear hv h
    go_enter Try.func53, Try.ntmps53
    go_wp2
    go_returns
    exact ⟨rfl, rfl⟩
  · have hv : letterB r = true := by unfold letterB Utf8.valid; rw [Bool.eq_iff_iff]; simp; omega
    have f1 : decide (97 ≤ r) = true := by simp; omega
    have f2 : decide (r ≤ 122) = true := by simp; omega
    have f3 : decide (65 ≤ r) = true := by simp; omega
    have f4 : decide (r ≤ 90) = false := by simp; omega
    have f5 : (r == 95) = false := by simp; omega
    have f6 : decide (192 ≤ r) = false := by simp; omega
    have f7 : (r == 215) = false := by simp; omega
    have f8 : (r == 247) = false := by simp; omega
    have f9 : (r != 215) = true := by simp; omega
    have f10 : (r != 247) = true := by simp; omega
    have f11 : decide (r ≤ 1114111) = true := by simp; omega
    have f12 : decide (r < 55296) = true := by simp; omega
    have f13 : decide (57343 < r) = false := by simp; omega
    rw [hv]
    clear hv h
    go_enter Try.func53, Try.ntmps53
    go_wp2
    go_returns
    exact ⟨rfl, rfl⟩
  · have hv : letterB r = false := by unfold letterB Utf8.valid; rw [Bool.eq_iff_iff]; simp; omega
    have f1 : decide (97 ≤ r) = true := by simp; omega
    have f2 : decide (r ≤ 122) = false := by simp; omega
    have f3 : decide (65 ≤ r) = true := by simp; omega
    have f4 : decide (r ≤ 90) = false := by simp; omega
    have f5 : (r == 95) = false := by simp; omega
    have f6 : decide (192 ≤ r) = false := by simp; omega
    have f7 : (r == 215) = false := by simp; omega
    have f8 : (r == 247) = false := by simp; omega
    have f9 : (r != 215) = true := by simp; omega
    have f10 : (r != 247) = true := by simp; omega
    have f11 : decide (r ≤ 1114111) = true := by simp; omega
    have f12 : decide (r < 55296) = true := by simp; omega
    have f13 : decide (57343 < r) = false := by simp; omega
    rw [hv]
    clear hv h
    go_enter Try.func53, Try.ntmps53
    go_wp2
    go_returns
    exact ⟨rfl, rfl⟩
  · have hv : letterB r = true := by unfold letterB Utf8.valid; rw [Bool.eq_iff_iff]; simp; omega
    have f1 : decide (97 ≤ r) = true := by simp; omega
    have f2 : decide (r ≤ 122) = false := by simp; omega
    have f3 : decide (65 ≤ r) = true := by simp; omega
    have f4 : decide (r ≤ 90) = false := by simp; omega
    have f5 : (r == 95) = false := by simp; omega
    have f6 : decide (192 ≤ r) = true := by simp; omega
    have f7 : (r == 215) = false := by simp; omega
    have f8 : (r == 247) = false := by simp; omega
    have f9 : (r != 215) = true := by simp; omega
    have f10 : (r != 247) = true := by simp; omega
    have f11 : decide (r ≤ 1114111) = true := by simp; omega
    have f12 : decide (r < 55296) = true := by simp; omega
    have f13 : decide (57343 < r) = false := by simp; omega
    rw [hv]
    clear hv h
    go_enter Try.func53, Try.ntmps53
    go_wp2
    go_returns
    exact ⟨rfl, rfl⟩
  · have hv : letterB r = false := by unfold letterB Utf8.valid; rw [Bool.eq_iff_iff]; simp; omega
    have f1 : decide (97 ≤ r) = true := by simp; omega
    have f2 : decide (r ≤ 122) = false := by simp; omega
    have f3 : decide (65 ≤ r) = true := by simp; omega
    have f4 : decide (r ≤ 90) = false := by simp; omega
    have f5 : (r == 95) = false := by simp; omega
    have f6 : decide (192 ≤ r) = true := by simp; omega
    have f7 : (r == 215) = true := by simp; omega
    have f8 : (r == 247) = false := by simp; omega
    have f9 : (r != 215) = false := by simp; omega
    have f10 : (r != 247) = true := by simp; omega
    have f11 : decide (r ≤ 1114111) = true := by simp; omega
    have f12 : decide (r < 55296) = true := by simp; omega
    have f13 : decide (57343 < r) = false := by simp; omega
    rw [hv]
    clear hv h
    go_enter Try.func53, Try.ntmps53
    go_wp2
    go_returns
    exact ⟨rfl, rfl⟩
  · have hv : letterB r = true := by unfold letterB Utf8.valid; rw [Bool.eq_iff_iff]; simp; omega
    have f1 : decide (97 ≤ r) = true := by simp; omega
    have f2 : decide (r ≤ 122) = false := by simp; omega
    have f3 : decide (65 ≤ r) = true := by simp; omega
    have f4 : decide (r ≤ 90) = false := by simp; omega
    have f5 : (r == 95) = false := by simp; omega
    have f6 : decide (192 ≤ r) = true := by simp; omega
    have f7 : (r == 215) = false := by simp; omega
    have f8 : (r == 247) = false := by simp; omega
    have f9 : (r != 215) = true := by simp; omega
    have f10 : (r != 247) = true := by simp; omega
    have f11 : decide (r ≤ 1114111) = true := by simp; omega
    have f12 : decide (r < 55296) = true := by simp; omega
    have f13 : decide (57343 < r) = false := by simp; omega
    rw [hv]
    clear hv h
    go_enter Try.func53, Try.ntmps53
    go_wp2
    go_returns
    exact ⟨rfl, rfl⟩
  · have hv : letterB r = false := by unfold letterB Utf8.valid; rw [Bool.eq_iff_iff]; simp; omega
    have f1 : decide (97 ≤ r) = true := by simp; omega
    have f2 : decide (r ≤ 122) = false := by simp; omega
    have f3 : decide (65 ≤ r) = true := by simp; omega
    have f4 : decide (r ≤ 90) = false := by simp; omega
    have f5 : (r == 95) = false := by simp; omega
    have f6 : decide (192 ≤ r) = true := by simp; omega
    have f7 : (r == 215) = false := by simp; omega
    have f8 : (r == 247) = true := by simp; omega
    have f9 : (r != 215) = true := by simp; omega
    have f10 : (r != 247) = false := by simp; omega
    have f11 : decide (r ≤ 1114111) = true := by simp; omega
    have f12 : decide (r < 55296) = true := by simp; omega
    have f13 : decide (57343 < r) = false := by simp; omega
    rw [hv]
    clear hv h
    go_enter Try.func53, Try.ntmps53
    go_wp2
    go_returns
    exact ⟨rfl, rfl⟩
  · have hv : letterB r = true := by unfold letterB Utf8.valid; rw [Bool.eq_iff_iff]; simp; omega
    have f1 : decide (97 ≤ r) = true := by simp; omega
    have f2 : decide (r ≤ 122) = false := by simp; omega
    have f3 : decide (65 ≤ r) = true := by simp; omega
    have f4 : decide (r ≤ 90) = false := by simp; omega
    have f5 : (r == 95) = false := by simp; omega
    have f6 : decide (192 ≤ r) = true := by simp; omega
    have f7 : (r == 215) = false := by simp; omega
    have f8 : (r == 247) = false := by simp; omega
    have f9 : (r != 215) = true := by simp; omega
    have f10 : (r != 247) = true := by simp; omega
    have f11 : decide (r ≤ 1114111) = true := by simp; omega
    have f12 : decide (r < 55296) = true := by simp; omega
    have f13 : decide (57343 < r) = false := by simp; omega
    rw [hv]
    clear hv h
    go_enter Try.func53, Try.ntmps53
    go_wp2
    go_returns
    exact ⟨rfl, rfl⟩
  · have hv : letterB r = false := by unfold letterB Utf8.valid; rw [Bool.eq_iff_iff]; simp; omega
    have f1 : decide (97 ≤ r) = true := by simp; omega
    have f2 : decide (r ≤ 122) = false := by simp; omega
    have f3 : decide (65 ≤ r) = true := by simp; omega
    have f4 : decide (r ≤ 90) = false := by simp; omega
    have f5 : (r == 95) = false := by simp; omega
    have f6 : decide (192 ≤ r) = true := by simp; omega
    have f7 : (r == 215) = false := by simp; omega
    have f8 : (r == 247) = false := by simp; omega
    have f9 : (r != 215) = true := by simp; omega
    have f10 : (r != 247) = true := by simp; omega
    have f11 : decide (r ≤ 1114111) = true := by simp; omega
    have f12 : decide (r < 55296) = false := by simp; omega
    have f13 : decide (57343 < r) = false := by simp; omega
    rw [hv]
    clear hv h
    go_enter Try.func53, Try.ntmps53
    go_wp2
    go_returns
    exact ⟨rfl, rfl⟩
  · have hv : letterB r = true := by unfold letterB Utf8.valid; rw [Bool.eq_iff_iff]; simp; omega
    have f1 : decide (97 ≤ r) = true := by simp; omega
    have f2 : decide (r ≤ 122) = false := by simp; omega
    have f3 : decide (65 ≤ r) = true := by simp; omega
    have f4 : decide (r ≤ 90) = false := by simp; omega
    have f5 : (r == 95) = false := by simp; omega
    have f6 : decide (192 ≤ r) = true := by simp; omega
    have f7 : (r == 215) = false := by simp; omega
    have f8 : (r == 247) = false := by simp; omega
    have f9 : (r != 215) = true := by simp; omega
    have f10 : (r != 247) = true := by simp; omega
    have f11 : decide (r ≤ 1114111) = true := by simp; omega
    have f12 : decide (r < 55296) = false := by simp; omega
    have f13 : decide (57343 < r) = true := by simp; omega
    rw [hv]
    clear hv h
    go_enter Try.func53, Try.ntmps53
    go_wp2
    go_returns
    exact ⟨rfl, rfl⟩
  · have hv : letterB r = false := by unfold letterB Utf8.valid; rw [Bool.eq_iff_iff]; simp; omega
    have f1 : decide (97 ≤ r) = true := by simp; omega
    have f2 : decide (r ≤ 122) = false := by simp; omega
    have f3 : decide (65 ≤ r) = true := by simp; omega
    have f4 : decide (r ≤ 90) = false := by simp; omega
    have f5 : (r == 95) = false := by simp; omega
    have f6 : decide (192 ≤ r) = true := by simp; omega
    have f7 : (r == 215) = false := by simp; omega
    have f8 : (r == 247) = false := by simp; omega
    have f9 : (r != 215) = true := by simp; omega
    have f10 : (r != 247) = true := by simp; omega
    have f11 : decide (r ≤ 1114111) = false := by simp; omega
    have f12 : decide (r < 55296) = false := by simp; omega
    have f13 : decide (57343 < r) = true := by simp; omega
    rw [hv]
    clear hv h
    go_enter Try.func53, Try.ntmps53
    go_wp2
    go_returns
    exact ⟨rfl, rfl⟩
end Go.Proofs.Ytmcjmdoeafhjpaa
