/- Towards the statements of package name (layer 9): the answers that the document fixes; two rows of texts. -/
import Derived.Test.YtkndkniimlckeaaNX
namespace Go.Proofs.Ytkndkniimlckeaa
open Go.ChangeShapes Go.WideShapes Go.ChangeAt Go.RowKit
set_option linter.unusedVariables false
set_option linter.unusedSimpArgs false
set_option maxRecDepth 20000
theorem words_lit (w : World) : Calls Try.prog 15 #[.string ⟨#[97, 32, 98, 49, 44, 32, 50, 99, 32, 195, 169]⟩] w fun e w' => ∃ g cap, e = .returned (.slice (some ⟨g, 0, none⟩) 3 cap) ∧ g < w'.heap.size ∧ w'.cell? ⟨g, 1, none⟩ = some (.string ⟨#[98, 49]⟩) ∧ w'.cell? ⟨g, 2, none⟩ = some (.string ⟨#[195, 169]⟩) ∧ Bl w w' := by
  refine (words_any _ (by decide) w).mono ?_
  rintro e w' ⟨v, X, rfl, hX, hm, hb⟩
  have hw : wordsM (bt ⟨#[97, 32, 98, 49, 44, 32, 50, 99, 32, 195, 169]⟩) = [[97], [98, 49], [195, 169]] := by decide +kernel
  rw [hw] at hm
  rcases X with _ | ⟨x, _ | ⟨y, _ | ⟨z, _ | ⟨t, X⟩⟩⟩⟩
  · simp at hm
  · simp at hm
  · simp at hm
  · simp only [List.map_cons, List.map_nil, List.cons.injEq, and_true] at hm
    obtain ⟨h0, h1, h2⟩ := hm
    have ey : y = ⟨#[98, 49]⟩ := bt_inj (h1.trans (by decide +kernel))
    have ez : z = ⟨#[195, 169]⟩ := bt_inj (h2.trans (by decide +kernel))
    subst ey ez
    rcases hX with ⟨_, h⟩ | ⟨g, cap, rfl, hg, hc⟩
    · cases h
    · exact ⟨g, cap, rfl, hg, hc 1 _ rfl, hc 2 _ rfl, hb⟩
  · simp at hm
set_option maxHeartbeats 4000000 in
theorem alive_any (w : World) : Calls Try.prog 9 #[] w fun e w' => e = .returned (.bool true) ∧ Bl w w' := by
  have m1 : mayM (bt ⟨#[110, 111, 100, 101, 95, 49]⟩) = true := by decide +kernel
  have m2 : mayM (bt ⟨#[49, 97]⟩) = false := by decide +kernel
  have m3 : mayM (bt ⟨#[195, 169]⟩) = true := by decide +kernel
  have m4 : mayM (bt ⟨#[]⟩) = false := by decide +kernel
  have m5 : mayM (bt ⟨#[97, 32, 98]⟩) = false := by decide +kernel
  have r1 : runM (bt ⟨#[97, 195, 169]⟩) = 2 := by decide +kernel
  have r2 : runM (bt ⟨#[233]⟩) = -1 := by decide +kernel
  have l1 : letterB 95 = true := by decide +kernel
  have l2 : letterB 215 = false := by decide +kernel
  have c1 : cmpM (bt ⟨#[97]⟩) (bt ⟨#[98]⟩) = -1 := by decide +kernel
  have c2 : cmpM (bt ⟨#[97, 98]⟩) (bt ⟨#[97]⟩) = 1 := by decide +kernel
  have k1 := fun W => m1 ▸ may_any ⟨#[110, 111, 100, 101, 95, 49]⟩ (by decide) W
  have k2 := fun W => m2 ▸ may_any ⟨#[49, 97]⟩ (by decide) W
  have k3 := fun W => m3 ▸ may_any ⟨#[195, 169]⟩ (by decide) W
  have k4 := fun W => m4 ▸ may_any ⟨#[]⟩ (by decide) W
  have k5 := fun W => m5 ▸ may_any ⟨#[97, 32, 98]⟩ (by decide) W
  have k6 := fun W => r1 ▸ runes_any ⟨#[97, 195, 169]⟩ (by decide) W
  have k7 := fun W => r2 ▸ runes_any ⟨#[233]⟩ (by decide) W
  have k8 := fun W => l1 ▸ letter_any 95 W
  have k9 := fun W => l2 ▸ letter_any 215 W
  have k10 := fun W => c1 ▸ compare_any ⟨#[97]⟩ ⟨#[98]⟩ (by decide) (by decide) W
  have k11 := fun W => c2 ▸ compare_any ⟨#[97, 98]⟩ ⟨#[97]⟩ (by decide) (by decide) W
  clear m1 m2 m3 m4 m5 r1 r2 l1 l2 c1 c2
  go_enter Try.func9, Try.ntmps9
  go_upto_region 2 with (go_at_call 15; refine (words_lit _).mono ?_; rintro e w1 ⟨g, cap, rfl, hg, hc1, hc2, hb1⟩)
  have HB := hb1
  have HC : ∀ W, Bl w1 W → W.cell? ⟨g, 1, none⟩ = some (.string ⟨#[98, 49]⟩) ∧ W.cell? ⟨g, 2, none⟩ = some (.string ⟨#[195, 169]⟩) := fun W h => ⟨(h.cell (p := ⟨g, 1, none⟩) hg).trans hc1, (h.cell (p := ⟨g, 2, none⟩) hg).trans hc2⟩
  have H0 : Bl w1 w1 := Bl.refl w1
  go_wp2_with (first
    | (go_at_call_of 10 (⟨#[110, 111, 100, 101, 95, 49]⟩ : ByteArray); refine (k1 _).mono ?_; rintro e wa ⟨rfl, hb⟩; replace H0 := H0.trans hb; clear hb)
    | (go_at_call_of 10 (⟨#[49, 97]⟩ : ByteArray); refine (k2 _).mono ?_; rintro e wa ⟨rfl, hb⟩; replace H0 := H0.trans hb; clear hb)
    | (go_at_call_of 10 (⟨#[195, 169]⟩ : ByteArray); refine (k3 _).mono ?_; rintro e wa ⟨rfl, hb⟩; replace H0 := H0.trans hb; clear hb)
    | (go_at_call_of 10 (⟨#[97, 32, 98]⟩ : ByteArray); refine (k5 _).mono ?_; rintro e wa ⟨rfl, hb⟩; replace H0 := H0.trans hb; clear hb; obtain ⟨g1, g2⟩ := HC _ H0)
    | (go_at_call 10; refine (k4 _).mono ?_; rintro e wa ⟨rfl, hb⟩; replace H0 := H0.trans hb; clear hb)
    | (go_at_call_of 12 (⟨#[233]⟩ : ByteArray); refine (k7 _).mono ?_; rintro e wa ⟨rfl, hb⟩; replace H0 := H0.trans hb; clear hb)
    | (go_at_call 12; refine (k6 _).mono ?_; rintro e wa ⟨rfl, hb⟩; replace H0 := H0.trans hb; clear hb)
    | (go_at_call_of 17 (95 : Int); refine (k8 _).mono ?_; rintro e wa ⟨rfl, hb⟩; replace H0 := H0.trans hb; clear hb)
    | (go_at_call_of 17 (215 : Int); refine (k9 _).mono ?_; rintro e wa ⟨rfl, hb⟩; replace H0 := H0.trans hb; clear hb)
    | (go_at_call_of 19 (⟨#[97, 98]⟩ : ByteArray); refine (k11 _).mono ?_; rintro e wa ⟨rfl, hb⟩; replace H0 := H0.trans hb; clear hb)
    | (go_at_call 19; refine (k10 _).mono ?_; rintro e wa ⟨rfl, hb⟩; replace H0 := H0.trans hb; clear hb))
  go_returns
  exact ⟨rfl, hb1.trans H0⟩
theorem text_eq (x y : ByteArray) : (x.toList == y.toList) = decide (bt x = bt y) := by
  rw [Bool.eq_iff_iff, beq_iff_eq, decide_eq_true_iff, ByteArray.toList_eq, ByteArray.toList_eq]
  constructor
  · intro h; simp [bt, h]
  · intro h; rw [bt_inj h]
theorem text_ne {x y : ByteArray} (h : x ≠ y) : (x.toList == y.toList) = false := by
  rw [text_eq, decide_eq_false_iff_not]; exact fun e => h (bt_inj e)
/-- Two rows of texts: are they the same? -/
def sameX (X Y : List ByteArray) : Bool := decide (X.map bt = Y.map bt)
theorem SRow.get {w : World} {p : Option Addr} {n c : Nat} {X : List ByteArray} (h : SRow w (.slice p n c) X) {i : Nat} {x : ByteArray} (hx : X[i]? = some x) : ∃ g, p = some ⟨g, 0, none⟩ ∧ w.cell? ⟨g, i, none⟩ = some (.string x) ∧ n = X.length ∧ g < w.heap.size := by
  rcases h with ⟨_, e2⟩ | ⟨g, cap, e, hlt, hc⟩
  · rw [e2] at hx; simp at hx
  · cases e; exact ⟨g, rfl, hc i x hx, rfl, hlt⟩
theorem same_take {X Y : List ByteArray} {i : Nat} {x y : ByteArray} (hx : X[i]? = some x) (hy : Y[i]? = some y) : (X.map bt).take (i + 1) = (Y.map bt).take (i + 1) ↔ (X.map bt).take i = (Y.map bt).take i ∧ x = y := by
  have h1 : (X.map bt)[i]? = some (bt x) := by simp [hx]
  have h2 : (Y.map bt)[i]? = some (bt y) := by simp [hy]
  have hl1 := (List.getElem?_eq_some_iff.1 h1)
  have hl2 := (List.getElem?_eq_some_iff.1 h2)
  rw [List.take_succ_eq_append_getElem hl1.1, List.take_succ_eq_append_getElem hl2.1, hl1.2, hl2.2]
  constructor
  · intro h
    have := List.append_inj' h rfl
    exact ⟨this.1, bt_inj (by simpa using this.2)⟩
  · rintro ⟨h, rfl⟩; rw [h]
set_option maxHeartbeats 2000000 in
theorem lists_any (u v : Value) (X Y : List ByteArray) (hl : X.length ≤ 1048577) (w : World) (hX : SRow w u X) (hY : SRow w v Y) : Calls Try.prog 14 #[u, v] w fun e w' => e = .returned (.bool (sameX X Y)) ∧ Bl w w' := by
  obtain ⟨p, c, rfl⟩ := hX.shape
  obtain ⟨p2, c2, rfl⟩ := hY.shape
  by_cases hn : X.length = Y.length
  · have hd : ((X.length : Int) != (Y.length : Int)) = false := by rw [hn]; simp
    rw [← hn] at hY hd ⊢
    replace hn : Hid (X.length = Y.length) := hn
    go_enter Try.func14, Try.ntmps14
    go_wp2
    go_loopw [5] (fun i wr => ∃ k : Nat, i = .int .i64 k ∧ k ≤ X.length ∧ (X.map bt).take k = (Y.map bt).take k ∧ Bl w wr) (fun i _ => X.length - (intOf i).toNat)
    case atStart => exact ⟨0, rfl, by omega, by simp, Bl.refl w⟩
    case round =>
      obtain ⟨k, rfl, hk, ht, hb⟩ := hrel
      replace ht : Hid ((X.map bt).take k = (Y.map bt).take k) := ht
      by_cases hlt : k < X.length
      · obtain ⟨x, hx⟩ : ∃ x, X[k]? = some x := ⟨X[k], by simp [hlt]⟩
        obtain ⟨y, hy⟩ : ∃ y, Y[k]? = some y := ⟨Y[k]'(by have := hn.out; omega), List.getElem?_eq_getElem (by have := hn.out; omega)⟩
        obtain ⟨g, rfl, cx, _, hg⟩ := (hX.gr hb).get hx
        obtain ⟨g2, rfl, cy, _, hg2⟩ := (hY.gr hb).get hy
        have hd7 : decide ((k : Int) < X.length) = true := by simp; omega
        have hd8 : decide ((0 : Int) ≤ (k : Int) ∧ (k : Int) < (X.length : Int)) = true := by simp; omega
        have e1 : IntKind.i64.wrap ((k : Int) + 1) = (k : Int) + 1 := IntWalk.i64_in _ (by omega)
        have hst := same_take hx hy
        by_cases hxy : x = y
        · subst hxy
          have hs1 : Hid ((X.map bt).take (k + 1) = (Y.map bt).take (k + 1)) := hst.2 ⟨ht.out, rfl⟩
          clear hst
          go_upto_region 6 with fail
          go_quiet (fail)
          go_wp2
          have hbq : Bl w (wr.drewN nq) := ⟨hb.os, hb.tape, hb.output, hb.size, hb.block⟩
          exact ⟨⟨k + 1, by simp, by omega, hs1.out, hbq⟩, by simp [intOf]; omega⟩
        · have hq := text_ne hxy
          have hs : sameX X Y = false := by
            rw [sameX, decide_eq_false_iff_not]
            intro h
            exact hxy (hst.1 (by rw [h])).2
          clear hst
          go_upto_region 6 with fail
          go_quiet (fail)
          go_wp2
          try rw [Exit.noGoto_ret]
          go_returns
          exact ⟨rfl, ⟨hb.os, hb.tape, hb.output, hb.size, hb.block⟩⟩
      · have hd7 : decide ((k : Int) < X.length) = false := by simp; omega
        go_wp2
        go_returns
        have h1 := ht.out
        rw [List.take_of_length_le (by simp; omega), List.take_of_length_le (by have := hn.out; simp; omega)] at h1
        exact ⟨by rw [sameX, decide_eq_true h1]; rfl, hb⟩
  · have hd : ((X.length : Int) != (Y.length : Int)) = true := by simp; omega
    have hs : sameX X Y = false := by
      rw [sameX, decide_eq_false_iff_not]
      intro h
      have := congrArg List.length h
      simp at this
      exact hn this
    rw [hs]
    go_enter Try.func14, Try.ntmps14
    go_wp2
    go_returns
    exact ⟨rfl, Bl.refl w⟩
end Go.Proofs.Ytkndkniimlckeaa
