/- Towards CodeBack: its walk. -/
import Derived.Test.YtdmdmbcapjmnlaaXB
namespace Go.Proofs.Ytdmdmbcapjmnlaa
open Go.ChangeShapes Go.WideShapes Go.ChangeAt
open Go.RowKit Go.Shelf
set_option linter.unusedVariables false
set_option linter.unusedSimpArgs false
set_option maxRecDepth 100000
set_option maxHeartbeats 16000000 in
theorem back_any (p0 : Option Addr) (c0 : Nat) (L : List Sl) (p1 : Option Addr) (c1 : Nat) (M : List Sl) (s : ByteArray) (w : World) (hL : Slots AnyB w (.slice p0 L.length c0) L) (hM : Slots AnyB w (.slice p1 M.length c1) M) (hn0 : p0 = none → c0 = 0) (hn1 : p1 = none → c1 = 0) (q0 : L.length ≤ 200) (q1 : M.length ≤ 200) (q2 : s.size ≤ 2048) :
    Calls Try.prog 3 #[.slice p0 L.length c0, .slice p1 M.length c1, .string s] w fun e w' => e = .returned (.bool true) ∧ Below w.heap.size w w' := by
  have hal := fun W => alive_any W
  have hLh := hL.here
  have d0 : decide ((200 : Int) < L.length) = false := by simp; omega
  have d1 : decide ((200 : Int) < M.length) = false := by simp; omega
  have d2 : decide ((2048 : Int) < s.size) = false := by simp; omega
  go_enter Try.func3, Try.ntmps3
  go_wp2
  go_loopw [7] (fun i wr => ∃ k : Nat, i = .int .i64 k ∧ k ≤ L.length ∧ Hid (∀ x ∈ L.take k, x.low) ∧ wr = w) (fun i _ => L.length - (intOf i).toNat)
  case atStart => exact ⟨0, rfl, by omega, fun x hx => by simp at hx, rfl⟩
  case round =>
    obtain ⟨k, rfl, hk, hlow, rfl⟩ := hrel
    by_cases hlt : k < L.length
    · obtain ⟨x, hx⟩ : ∃ x, L[k]? = some x := ⟨L[k], by simp [hlt]⟩
      obtain ⟨b, off, cap, he, hb0, ⟨g0, g1, g2, g3, g4⟩, _, hlt2⟩ := hLh.get (at_ := (k : Int)) (by omega) (by simpa using hx)
      cases he
      simp only [Int.toNat_natCast] at g0 g1 g2 g3 g4
      have hd7 : decide ((k : Int) < L.length) = true := by simp; omega
      have hd8 : decide ((0 : Int) ≤ (k : Int) ∧ (k : Int) < (L.length : Int)) = true := by simp; omega
      have e1 : IntKind.i64.wrap ((k : Int) + 1) = (k : Int) + 1 := IntWalk.i64_in _ (by omega)
      have htk : L.take (k + 1) = L.take k ++ [x] := by rw [List.take_add_one, hx]; rfl
      clear hx
      cases hd : decide (15 < x.d) with
      | true =>
        go_wp2_with (go_at_call 5; refine (hal _).mono ?_; rintro e w1 ⟨rfl, hb⟩)
        all_goals go_returns
        exact ⟨rfl, hb⟩
      | false =>
        cases hs : decide (15 < x.s) with
        | true =>
          go_wp2_with (go_at_call 5; refine (hal _).mono ?_; rintro e w1 ⟨rfl, hb⟩)
          all_goals go_returns
          exact ⟨rfl, hb⟩
        | false =>
          go_wp2
          refine ⟨⟨k + 1, by simp, by omega, fun y hy => ?_, by first | rfl | trivial⟩, by simp [intOf]; omega⟩
          rw [htk] at hy
          rcases List.mem_append.1 hy with hy | hy
          · exact hlow.out y hy
          · rw [List.mem_singleton.1 hy]
            simp only [decide_eq_false_iff_not] at hd hs
            exact ⟨by omega, by omega⟩
    · have hd7 : decide ((k : Int) < L.length) = false := by simp; omega
      have hlo : ∀ x ∈ L, x.low := by
        have := hlow.out
        rwa [List.take_of_length_le (by omega)] at this
      have hd9 : decide (k < L.length) = false := by simp; omega
      clear hlow hk
      have HB : Below wr.heap.size wr wr := Below.refl _ _
      have hA8 := encL_size hL.ok
      have hB8 := encL_size hM.ok
      have hAs : (⟨(encL L).toArray⟩ : ByteArray).size ≤ 1600 := by omega
      have hBs : (⟨(encL M).toArray⟩ : ByteArray).size ≤ 1600 := by omega
      clear hB8
      have ke := fun W (h : Below wr.heap.size wr W) => cencode_any (.slice p0 L.length c0) L W (hL.gr h)
      have kf := fun W (h : Below wr.heap.size wr W) => cencode_any (.slice p1 M.length c1) M W (hM.gr h)
      have kda := fun W => decode_told ⟨(encL L).toArray⟩ L.length hA8 (by omega) W
      rw [dec_enc_L L hL.ok hlo] at kda
      have kapp := fun W (h : Below wr.heap.size wr W) => both_any (hL.gr h) (hM.gr h) hn0 hn1 q0 q1
      have kg := fun v W (h : Slots AnyB W v (L ++ M)) => cencode_any v (L ++ M) W h
      rw [encL_app, bytes_app] at kg
      have ksm := fun v W (h : Slots AnyB W v L) (hb : Below wr.heap.size wr W) => same_any v (.slice p0 L.length c0) L W h (hL.gr hb)
      generalize (⟨(encL L).toArray⟩ : ByteArray) = A at ke kda kg hA8 hAs
      generalize (⟨(encL M).toArray⟩ : ByteArray) = B at kf kg hBs
      have hself : ((A ++ B).toList == (A ++ B).toList) = true := by simp
      have hselfs : (s.toList == s.toList) = true := by simp
      clear hlo hA8 hLh
      by_cases h8 : s.size % 8 = 0
      · obtain ⟨n, hn⟩ : ∃ n, s.size = 8 * n := ⟨s.size / 8, by omega⟩
        have kds := fun W => decode_told s n hn (by omega) W
        have kh := fun v W (h : Slots AnyB W v (decL s n)) => cencode_any v (decL s n) W h
        rw [enc_dec_L s n hn, ba_back] at kh
        have hm8 : Hid (s.size = 8 * n) := hn
        have r8 : (s.size : Int).tmod 8 = 0 := by rw [Int.tmod_eq_emod_of_nonneg (by omega)]; omega
        have r8' : (s.size : Int) % 8 = 0 := by omega
        clear hn h8
        go_upto_region 9 with first | (go_at_call 7; refine (ke _ HB).mono ?_; rintro e va ⟨rfl, hb⟩; replace HB := HB.trans (hb.mono HB.size); clear hb) | (go_at_call_of 6 A; refine (kda _).mono ?_; rintro e vb ⟨x1, rfl, hS1, hb⟩; replace HB := HB.trans (hb.mono HB.size); clear hb)
        have hT1 := hS1
        clear hS1
        go_upto_region 10 with (go_at_call_of 6 s; refine (kds _).mono ?_; rintro e vc ⟨x2, rfl, hS2, hb⟩; replace HB := HB.trans (hb.mono HB.size); replace hT1 := hT1.gr hb; clear hb)
        obtain ⟨x3, w3, x4, w4, r3, r4, hS4, hb4⟩ := kapp _ HB
        have hS1' := hT1.gr hb4
        replace hS2 := hS2.gr hb4
        replace HB := HB.trans (hb4.mono HB.size)
        clear hb4 hT1
        go_upto_region 11 with first | (refine Lib.wpList_append_run _ rfl _ _ 22 22 rfl _ _ rfl rfl x3 w3 r3 ?_; skip) | (refine Lib.wpList_append_run _ rfl _ _ 22 22 rfl _ _ rfl rfl x4 w4 r4 ?_; skip)
        clear r3 r4
        go_wp2_with first | (go_at_call 8; refine (ksm _ _ hS1' HB).mono ?_; rintro e vd ⟨rfl, hb⟩; replace hS4 := hS4.gr hb; replace hS2 := hS2.gr hb; replace HB := HB.trans (hb.mono HB.size); clear hb) | (go_at_call_of 7 x4; refine (kg _ _ hS4).mono ?_; rintro e ve ⟨rfl, hb⟩; replace hS2 := hS2.gr hb; replace HB := HB.trans (hb.mono HB.size); clear hb) | (go_at_call_of 7 c0; refine (ke _ HB).mono ?_; rintro e vf ⟨rfl, hb⟩; replace hS2 := hS2.gr hb; replace HB := HB.trans (hb.mono HB.size); clear hb) | (go_at_call_of 7 c1; refine (kf _ HB).mono ?_; rintro e vg ⟨rfl, hb⟩; replace hS2 := hS2.gr hb; replace HB := HB.trans (hb.mono HB.size); clear hb) | (go_at_call 7; refine (kh _ _ hS2).mono ?_; rintro e vh ⟨rfl, hb⟩; replace HB := HB.trans (hb.mono HB.size); clear hb) | (go_at_call 5; refine (hal _).mono ?_; rintro e vi ⟨rfl, hb⟩; replace HB := HB.trans (hb.mono HB.size); clear hb)
        go_returns
        exact ⟨rfl, HB⟩
      · have kds := fun W => cdecode_form s h8 W
        have r8 : ((s.size : Int).tmod 8 == 0) = false := by rw [Int.tmod_eq_emod_of_nonneg (by omega)]; simp; omega
        have r8' : ((s.size : Int) % 8 == 0) = false := by simp; omega
        clear h8
        go_upto_region 9 with first | (go_at_call 7; refine (ke _ HB).mono ?_; rintro e va ⟨rfl, hb⟩; replace HB := HB.trans (hb.mono HB.size); clear hb) | (go_at_call_of 6 A; refine (kda _).mono ?_; rintro e vb ⟨x1, rfl, hS1, hb⟩; replace HB := HB.trans (hb.mono HB.size); clear hb)
        have hT1 := hS1
        clear hS1
        go_upto_region 10 with (go_at_call_of 6 s; refine (kds _).mono ?_; rintro e vc ⟨rfl, hw⟩; rw [hw]; clear hw)
        obtain ⟨x3, w3, x4, w4, r3, r4, hS4, hb4⟩ := kapp _ HB
        have hS1' := hT1.gr hb4
        replace HB := HB.trans (hb4.mono HB.size)
        clear hb4 hT1
        go_upto_region 11 with first | (refine Lib.wpList_append_run _ rfl _ _ 22 22 rfl _ _ rfl rfl x3 w3 r3 ?_; skip) | (refine Lib.wpList_append_run _ rfl _ _ 22 22 rfl _ _ rfl rfl x4 w4 r4 ?_; skip)
        clear r3 r4
        go_wp2_with first | (go_at_call 8; refine (ksm _ _ hS1' HB).mono ?_; rintro e vd ⟨rfl, hb⟩; replace hS4 := hS4.gr hb; replace HB := HB.trans (hb.mono HB.size); clear hb) | (go_at_call_of 7 x4; refine (kg _ _ hS4).mono ?_; rintro e ve ⟨rfl, hb⟩; replace HB := HB.trans (hb.mono HB.size); clear hb) | (go_at_call_of 7 c0; refine (ke _ HB).mono ?_; rintro e vf ⟨rfl, hb⟩; replace HB := HB.trans (hb.mono HB.size); clear hb) | (go_at_call_of 7 c1; refine (kf _ HB).mono ?_; rintro e vg ⟨rfl, hb⟩; replace HB := HB.trans (hb.mono HB.size); clear hb) | (go_at_call 5; refine (hal _).mono ?_; rintro e vi ⟨rfl, hb⟩; replace HB := HB.trans (hb.mono HB.size); clear hb)
        go_returns
        exact ⟨rfl, HB⟩
end Go.Proofs.Ytdmdmbcapjmnlaa
