/- Towards the statements of package code (layer 8): walk: where instructions begin. -/
import Derived.Test.YtdmdmbcapjmnlabCG
namespace Go.Proofs.Ytdmdmbcapjmnlab
open Go.ChangeShapes Go.WideShapes Go.ChangeAt
open Go.RowKit Go.Shelf
set_option linter.unusedVariables false
set_option linter.unusedSimpArgs false
set_option maxRecDepth 20000

/-- The walk from at on: where it stops, and what it found. -/
def walkF (L : List Sl) : Nat → Nat → List Bool → Nat × List Bool
  | 0, k, Bg => (k, Bg)
  | f + 1, k, Bg => if k < L.length then (if kindM L k = 0 then (k, Bg) else if kindM L k = 9 then (if secB L ((k : Int) + 1) = true then walkF L f (k + 2) (Bg.set k true) else (k, Bg)) else walkF L f (k + 1) (Bg.set k true)) else (k, Bg)
def walkM (L : List Sl) : Nat × List Bool := walkF L (L.length + 1) 0 (List.replicate L.length false)

theorem info4 : (Try.prog.info? 4).map (fun i => (i.zero, i.size, i.bytes)) = some (some (.bool false), 1, 1) := by kernel_rfl
theorem Slots.grown {w w' : World} {sv : Value} {L : List Sl} {P : Nat} (h : Slots (· ≠ P) w sv L) (hg : w.grownBy w' (some P)) : Slots (· ≠ P) w' sv L := by
  refine ⟨h.ok, h.len, ?_⟩
  rcases h.at' with e | ⟨b, off, cap, e, hb0, hb1, hc⟩
  · exact .inl e
  · exact .inr ⟨b, off, cap, e, hb0, Nat.lt_of_lt_of_le hb1 hg.size, fun j x hx => (hc j x hx).keep (S := fun i => i < w.heap.size ∧ i ≠ P) ⟨hb1, hb0⟩ (fun i hi => hg.block i hi.1 (fun e => hi.2 (by cases e; rfl)))⟩
theorem grown_trans {a b c : World} {P : Nat} (h : a.grownBy b (some P)) (k : b.grownBy c (some P)) : a.grownBy c (some P) :=
  ⟨k.os.trans h.os, k.tape.trans h.tape, k.output.trans h.output, Nat.le_trans h.size k.size, fun i hi he => (k.block i (Nat.lt_of_lt_of_le hi h.size) he).trans (h.block i hi he)⟩
theorem grown_gr {a b c : World} {P : Nat} (h : a.grownBy b (some P)) (k : Below b.heap.size b c) : a.grownBy c (some P) :=
  ⟨k.os.trans h.os, k.tape.trans h.tape, k.output.trans h.output, Nat.le_trans h.size k.size, fun i hi he => (k.block i (Nat.lt_of_lt_of_le hi h.size)).trans (h.block i hi he)⟩
theorem size_set (w : World) (a : Addr) (u : Value) : (w.setCell a u).heap.size = w.heap.size := by simp [World.setCell]
/-- A store into the record, or into memory that is new. -/
theorem grown_set {a b : World} {P : Nat} (h : a.grownBy b (some P)) {q : Addr} (hq : q.block = P ∨ a.heap.size ≤ q.block) (u : Value) : a.grownBy (b.setCell q u) (some P) :=
  ⟨h.os, h.tape, h.output, by rw [size_set]; exact h.size, fun i hi he => (Below.heap_setCell b q u i (by
    intro e
    rcases hq with hq | hq
    · exact he (by rw [e, hq])
    · omega)).trans (h.block i hi he)⟩
theorem walk_stop (L : List Sl) {f k : Nat} {Bg : List Bool} (hk : L.length ≤ k) : walkF L f k Bg = (k, Bg) := by
  cases f with
  | zero => rfl
  | succ f => rw [walkF, if_neg (by omega)]
theorem made_list (n : Nat) : (madeCells (Value.bool false).cells (n * 1)).toList = (List.replicate n false).map Value.bool := by
  simp only [madeCells, Value.cells, Nat.mul_one]
  apply List.ext_getElem
  · simp
  · intro i h1 h2; simp [Nat.mod_one]
set_option maxHeartbeats 2000000 in
theorem walk_any (P : Nat) (sv vb vs vh : Value) (L : List Sl) (w : World) (hR : Rec w P sv vb vs vh) (hL : Slots (· ≠ P) w sv L) :
    Calls Try.prog 27 #[.pointer (some ⟨P, 0, none⟩)] w fun e w' => e = .returned (.tuple #[.int .i64 (if (walkM L).1 < L.length then (walkM L).1 else 0), .int .i64 (if (walkM L).1 < L.length then 80 else 0)]) ∧ ∃ bb vb', w.heap.size ≤ bb ∧ Bools w' bb vb' (walkM L).2 ∧ Rec w' P sv vb' vs vh ∧ w.grownBy w' (some P) := by
  obtain ⟨p, c, rfl⟩ := hL.shape
  obtain ⟨r0, r1, r2, r3⟩ := hR.cells
  have hlen := hL.len
  obtain ⟨i0, hi, hz0, hz1, hz2⟩ := info_parts info4
  go_enter Try.func27, Try.ntmps27
  go_wp2_with fail
  go_step3
  go_wp2_with first | (refine wpList_make_full _ rfl _ _ 43 rfl w.heap.size 4 i0 (.bool false) 1 Try.underlying43 hi hz0 hz1 _ _ _ _ L.length rfl rfl rfl rfl (by rw [hz2]; omega) (by simp [maxLen]; omega) (Nat.le_refl _) ?_; intro w1 hown hgrow; have hb1 := (Below.refl w.heap.size w).grown hgrow (Nat.le_refl _) (fun k e => by cases e); have hR1 := hR.gr hb1; obtain ⟨s0, s1, s2, s3⟩ := hR1.cells; have f1 := hR1.fro 1)
  go_step3
  have hB : Bools w1 w.heap.size (.slice (some ⟨w.heap.size, 0, none⟩) L.length L.length) (List.replicate L.length false) := by
    rcases hown.2 with ⟨e, _⟩ | ⟨g, cap, cur, e, _, hg, _, _, hs, ht⟩
    · cases e
    · cases e
      refine ⟨⟨L.length, by simp⟩, hg.trans ?_⟩
      rw [made_list, Nat.mul_one, List.take_of_length_le (by simp [hs])] at ht
      rw [← ht]
  have hne : w.heap.size ≠ P := by have := hR.lt; omega
  have hB2 := hB.other (o := 1) hne (.slice (some ⟨w.heap.size, 0, none⟩) L.length L.length)
  have hR2 := hR1.set1 (.slice (some ⟨w.heap.size, 0, none⟩) L.length L.length)
  have hG2 : w.grownBy (w1.setCell ⟨P, 1, none⟩ (.slice (some ⟨w.heap.size, 0, none⟩) L.length L.length)) (some P) := grown_set ⟨hgrow.os, hgrow.tape, hgrow.output, hgrow.size, fun i hi _ => hgrow.block i hi (by simp)⟩ (.inl rfl) _
  generalize (w1.setCell ⟨P, 1, none⟩ (.slice (some ⟨w.heap.size, 0, none⟩) L.length L.length)) = W2 at hB2 hR2 hG2 ⊢
  clear s0 s1 s2 s3 f1 hB hR1 hown hgrow hb1 r0 r1 r2 r3 hi hz0 hz1 hz2
  go_wp2_with fail
  go_loopw [4] (fun i wr => ∃ (k f : Nat) (Bg : List Bool), i = .int .i64 k ∧ k ≤ L.length + 1 ∧ Bg.length = L.length ∧ walkF L f k Bg = walkM L ∧ L.length < k + f ∧ Rec wr P (.slice p L.length c) (.slice (some ⟨w.heap.size, 0, none⟩) L.length L.length) vs vh ∧ Bools wr w.heap.size (.slice (some ⟨w.heap.size, 0, none⟩) L.length L.length) Bg ∧ w.grownBy wr (some P))
    (fun i _ => L.length + 2 - (intOf i).toNat)
  case atStart => exact ⟨0, L.length + 1, _, rfl, by omega, by simp, rfl, by omega, hR2, hB2, hG2⟩
  case round =>
    obtain ⟨k, f, Bg, rfl, hk1, hBl, hw, hf, hRr, hBr, hGr⟩ := hrel
    obtain ⟨r0, r1, r2, r3⟩ := hRr.cells
    by_cases hlt : k < L.length
    · obtain ⟨f, rfl⟩ : ∃ f', f = f' + 1 := ⟨f - 1, by omega⟩
      rw [walkF, if_pos hlt] at hw
      have hd : decide ((k : Int) < L.length) = true := by simp; omega
      obtain ⟨x, hx⟩ : ∃ x, slotAt L k = some x := ⟨L[k], by simp [slotAt, hlt]⟩
      obtain ⟨h0, h1⟩ := slotAt_some hx
      obtain ⟨b, off, cap, hsv, hb, ⟨c0, c1, c2, c3, c4⟩, ⟨⟨o0, o1⟩, ⟨d0, d1⟩, ⟨s0, s1⟩, _⟩, hlt'⟩ := (hL.grown hGr).get h0 h1
      cases hsv
      simp only [Int.toNat_natCast] at c0 c1 c2 c3 c4
      have hkx : kindM L k = x.k := by rw [kindM, hx]
      have k2 := kind_any x.o x.d x.s x.f x.i o0 o1 d0 d1 s0 s1 wr
      rw [show kV x.o x.d x.s x.f x.i = x.k from rfl] at k2
      have k3 := fun W (hr : Rec W P (.slice (some ⟨b, off, none⟩) L.length c) (.slice (some ⟨w.heap.size, 0, none⟩) L.length L.length) vs vh) hs => maySecond_any P _ _ _ _ L ((k : Int) + 1) W hr hs
      have k4 := fun W hs => behind_any AnyB (.slice (some ⟨b, off, none⟩) L.length c) L k (by omega) (by omega) W hs
      have e1 : IntKind.i64.wrap ((k : Int) + 1) = (k : Int) + 1 := IntWalk.i64_in _ (by omega)
      by_cases hk0 : x.k = 0
      · rw [hkx, if_pos hk0] at hw
        rw [hk0] at k2
        have hwm : walkM L = (k, Bg) := hw.symm
        have kt := fun W => told_any (k : Int) true 80 W
        go_wp2_with first | (go_at_call 40; refine k2.mono ?_; rintro e w' ⟨rfl, hg⟩; replace hRr := hRr.gr hg.below; replace hBr := hBr.gr hg.below; replace hGr := grown_gr hGr hg.below; clear hg; obtain ⟨r0, r1, r2, r3⟩ := hRr.cells) | (go_at_call 24; refine (kt _).mono ?_; rintro e w' ⟨rfl, hw⟩; rw [hw]; clear hw)
        try rw [Exit.noGoto_ret]
        go_returns
        exact ⟨by simp [hwm, hlt], _, _, Nat.le_refl _, by rw [hwm]; exact hBr, hRr, hGr⟩
      · rw [hkx, if_neg hk0] at hw
        have q0 : (x.k == 0) = false := by simpa using hk0
        by_cases hk9 : x.k = 9
        · rw [if_pos hk9] at hw
          cases hsec : secB L ((k : Int) + 1) with
          | false =>
            rw [hsec, if_neg (by simp)] at hw
            have hwm : walkM L = (k, Bg) := hw.symm
            have kt := fun W => told_any (k : Int) true 80 W
            rw [hk9] at k2
            go_wp2_with first | (go_at_call 40; refine k2.mono ?_; rintro e w' ⟨rfl, hg⟩; replace hRr := hRr.gr hg.below; replace hBr := hBr.gr hg.below; replace hGr := grown_gr hGr hg.below; clear hg; obtain ⟨r0, r1, r2, r3⟩ := hRr.cells) | (go_at_call 48; refine (k3 _ hRr ((hL.grown hGr).mono fun _ _ => trivial)).mono ?_; rw [hsec]; rintro e w' ⟨rfl, hg⟩; replace hRr := hRr.gr hg.below; replace hBr := hBr.gr hg.below; replace hGr := grown_gr hGr hg.below; clear hg; obtain ⟨r0, r1, r2, r3⟩ := hRr.cells) | (go_at_call 24; refine (kt _).mono ?_; rintro e w' ⟨rfl, hw⟩; rw [hw]; clear hw)
            try rw [Exit.noGoto_ret]
            go_returns
            exact ⟨by simp [hwm, hlt], _, _, Nat.le_refl _, by rw [hwm]; exact hBr, hRr, hGr⟩
          | true =>
            rw [hsec, if_pos rfl] at hw
            have hbe : behindM L k = (k : Int) + 2 := by rw [behindM, hkx, hk9]; rfl
            rw [hk9] at k2
            go_wp2_with first | (go_at_call 40; refine k2.mono ?_; rintro e w' ⟨rfl, hg⟩; replace hRr := hRr.gr hg.below; replace hBr := hBr.gr hg.below; replace hGr := grown_gr hGr hg.below; clear hg; obtain ⟨r0, r1, r2, r3⟩ := hRr.cells) | (go_at_call 48; refine (k3 _ hRr ((hL.grown hGr).mono fun _ _ => trivial)).mono ?_; rw [hsec]; rintro e w' ⟨rfl, hg⟩; replace hRr := hRr.gr hg.below; replace hBr := hBr.gr hg.below; replace hGr := grown_gr hGr hg.below; clear hg; obtain ⟨r0, r1, r2, r3⟩ := hRr.cells; have cb := hBr.cell k (by omega); have fb := hBr.fro k; have rs := (hRr.other (o := k) (Ne.symm hne) (.bool true)).cells.1) | (go_at_call 15; refine (k4 _ ((hL.grown (grown_set hGr (.inr (Nat.le_refl _)) _)).mono fun _ _ => trivial)).mono ?_; rw [hbe]; rintro e w3 ⟨rfl, hg⟩)
            go_roundw
            case rel => exact ⟨k + 2, f, Bg.set k true, by simp, by omega, by simpa using hBl, hw, by omega, (hRr.other (Ne.symm hne) _).gr hg.below, (hBr.set k true).gr hg.below, grown_gr (grown_set hGr (.inr (Nat.le_refl _)) _) hg.below⟩
            case measure => simp [intOf]; omega
        · rw [if_neg hk9] at hw
          have q9 : (x.k == 9) = false := by simpa using hk9
          have hbe : behindM L k = (k : Int) + 1 := by rw [behindM, hkx, if_neg hk9]
          generalize x.k = xk at k2 q0 q9
          go_wp2_with first | (go_at_call 40; refine k2.mono ?_; rintro e w' ⟨rfl, hg⟩; replace hRr := hRr.gr hg.below; replace hBr := hBr.gr hg.below; replace hGr := grown_gr hGr hg.below; clear hg; obtain ⟨r0, r1, r2, r3⟩ := hRr.cells; have cb := hBr.cell k (by omega); have fb := hBr.fro k; have rs := (hRr.other (o := k) (Ne.symm hne) (.bool true)).cells.1) | (go_at_call 15; refine (k4 _ ((hL.grown (grown_set hGr (.inr (Nat.le_refl _)) _)).mono fun _ _ => trivial)).mono ?_; rw [hbe]; rintro e w3 ⟨rfl, hg⟩)
          go_roundw
          case rel => exact ⟨k + 1, f, Bg.set k true, by simp, by omega, by simpa using hBl, hw, by omega, (hRr.other (Ne.symm hne) _).gr hg.below, (hBr.set k true).gr hg.below, grown_gr (grown_set hGr (.inr (Nat.le_refl _)) _) hg.below⟩
          case measure => simp [intOf]; omega
    · rw [walk_stop L (by omega)] at hw
      have hwm : walkM L = (k, Bg) := hw.symm
      have kt := fun W => told_any (k : Int) false 80 W
      go_wp2_with first | (go_at_call 24; refine (kt _).mono ?_; rintro e w' ⟨rfl, hw⟩; rw [hw]; clear hw)
      try rw [Exit.noGoto_ret]
      go_returns
      exact ⟨by simp [hwm, hlt], _, _, Nat.le_refl _, by rw [hwm]; exact hBr, hRr, hGr⟩
end Go.Proofs.Ytdmdmbcapjmnlab
