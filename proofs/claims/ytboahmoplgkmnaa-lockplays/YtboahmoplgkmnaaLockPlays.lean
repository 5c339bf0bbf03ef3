/- LockPlays: what each call answers, which lock is held, and the epoch, behind any calls: the statement as given. No condition. -/
import Derived.Test.YtboahmoplgkmnaaKB
import Derived.Deep.CutBlock
import Derived.WalkKit
import Derived.ProofKit
import Derived.OpenShut
import Derived.ShutString
namespace Go.Proofs.Ytboahmoplgkmnaa.lockPlays
open Go.ChangeShapes Go.WideShapes Go.ChangeAt Go.RowKit
open Go.ChangeMaps (open_string shut_string)
set_option linter.unusedVariables false
set_option linter.unusedSimpArgs false

theorem own : ownKnob Try.prog.godebug = none := by kernel_rfl
/-- The lock, and what the script holds it to have. -/
structure Pl (w : World) (B H : Nat) (q : Bool) (m s : Int) (n : Nat) (hg : Bool) (hm hs : Int) : Prop where
  lk : Lk w B m s q n
  cells : w.heap[H]? = some (.cells #[.bool hg, .int .i64 hm, .int .i64 hs] 27 (0, 0))
  yes : q = true → hm = m ∧ hs = s
  no : q = false → m = 0 ∧ s = 0
theorem Pl.bel {w w' : World} {B H : Nat} {q : Bool} {m s : Int} {n : Nat} {hg : Bool} {hm hs : Int} (h : Pl w B H q m s n hg hm hs) (hb : Below w.heap.size w w') : Pl w' B H q m s n hg hm hs :=
  ⟨h.lk.bel hb, (hb.block _ (heap_lt h.cells)).trans h.cells, h.yes, h.no⟩
theorem Lk.oth {w : World} {b : Nat} {m s : Int} {q : Bool} {n : Nat} (h : Lk w b m s q n) {H : Nat} (e : H ≠ b) (k : Nat) (u : Value) : Lk (w.setCell ⟨H, k, none⟩ u) b m s q n :=
  (Below.heap_setCell _ _ _ _ (by simpa using Ne.symm e)).trans h
theorem h_set3 {w : World} {H : Nat} {a b c : Value} (h : w.heap[H]? = some (.cells #[a, b, c] 27 (0, 0))) (x y z : Value) : (((w.setCell ⟨H, 0, none⟩ x).setCell ⟨H, 1, none⟩ y).setCell ⟨H, 2, none⟩ z).heap[H]? = some (.cells #[x, y, z] 27 (0, 0)) := by
  have h1 := heap_setCell_same w H 0 _ _ x h
  have h2 := heap_setCell_same _ H 1 _ _ y h1
  exact heap_setCell_same _ H 2 _ _ z h2
theorem bel_set3 {B : Nat} {w w' : World} (h : Below B w w') {H : Nat} (e : B ≤ H) (x y z : Value) : Below B w (((w'.setCell ⟨H, 0, none⟩ x).setCell ⟨H, 1, none⟩ y).setCell ⟨H, 2, none⟩ z) :=
  ((h.setCell (p := ⟨H, 0, none⟩) e x).setCell (p := ⟨H, 1, none⟩) e y).setCell (p := ⟨H, 2, none⟩) e z

set_option maxRecDepth 100000 in
set_option maxHeartbeats 16000000 in
theorem walk (p0 : Option Addr) (L0 : List St) (c0 : Nat) (a1 : Int) (a2 : Int) (w : World) (hL0 : Sts w p0 L0) (w1 : (Lit.int .i64 a1).wf = true) (w2 : (Lit.int .i64 a2).wf = true) :
    Calls Try.prog 3 #[.slice p0 L0.length c0, .int .i64 a1, .int .i64 a2] w fun e w' => e = .returned (.bool true) ∧ Below w.heap.size w w' := by
  have kw := fun W => works_any W
  by_cases hlong : 400 < L0.length
  · have d : decide ((400 : Int) < (L0.length : Int)) = true := by simp; omega
    go_enter Try.func3, Try.ntmps3
    go_wp2_with (go_at_call 7; refine (kw _).mono ?_; rintro e w3 ⟨rfl, hb⟩)
    all_goals go_returns
    exact ⟨rfl, hb⟩
  have d1 : decide ((400 : Int) < (L0.length : Int)) = false := by simp; omega
  have k1 := new_any w
  go_enter Try.func3, Try.ntmps3
  go_upto_region 5 with (go_at_call 8; refine k1.mono ?_; rintro e w1 ⟨rfl, h1, hb1⟩)
  clear k1
  have hPl : Pl (w1.alloc (.cells #[.bool false, .int .i64 0, .int .i64 0] 27)) w.heap.size w1.heap.size false 0 0 0 false 0 0 :=
    ⟨h1.bel ((Below.refl _ w1).alloc (Nat.le_refl _) _), heap_alloc_new w1 _, fun h => (by cases h), fun _ => ⟨rfl, rfl⟩⟩
  have hb2 : Below w.heap.size w (w1.alloc (.cells #[.bool false, .int .i64 0, .int .i64 0] 27)) := hb1.alloc hb1.size _
  have hHB : w1.heap.size ≠ w.heap.size := by have := h1.lt; omega
  have hBH : w.heap.size ≤ w1.heap.size := hb1.size
  clear h1 hb1
  generalize w1.alloc (.cells #[.bool false, .int .i64 0, .int .i64 0] 27) = w2 at hPl hb2 ⊢
  generalize w1.heap.size = H at hPl hHB hBH ⊢
  generalize hB0 : w.heap.size = B at hPl hb2 hHB hBH ⊢
  replace hB0 : Hid _ := hB0
  replace hL0 : Hid _ := hL0
  go_wp2
  go_loopw [9, 10, 11] (fun n9 n10 n11 wr => ∃ (i : Nat) (q : Bool) (m s : Int) (n : Nat) (hg : Bool) (hm hs : Int), n9 = .bool q ∧ n10 = .int .u64 n ∧ n11 = .int .i64 i ∧ i ≤ L0.length ∧ n ≤ i ∧ Pl wr B H q m s n hg hm hs ∧ Below B w wr) (fun _ _ n11 _ => L0.length - (valOf n11).toNat)
  case atStart => exact ⟨0, false, 0, 0, 0, false, 0, 0, rfl, rfl, rfl, by omega, by omega, hPl, hb2⟩
  case round =>
    clear hPl hb2
    obtain ⟨i, q, m, s, n, hg, hm, hs, rfl, rfl, rfl, hi, hni, hP, hbl⟩ := hrel
    by_cases hin : i < L0.length
    · have d : decide ((i : Int) < L0.length) = true := by simp; omega
      have e9 : IntKind.i64.wrap ((i : Int) + 1) = (i : Int) + 1 := IntWalk.i64_in _ (by omega)
      have e8 : IntKind.u64.wrap ((n : Int) + 1) = (n : Int) + 1 := IntWalk.u64_in _ (by omega)
      have hnl : n < 18446744073709551615 := by omega
      obtain ⟨xb, xo, ⟨xd, xm, xs⟩, hxi, hsx, hxb, _, hai⟩ := idxS hL0.out hin
      have hxB : xb < B := by rw [← hB0.out]; exact hxb
      have hai' := hai c0
      have r0 : wr.cell? ⟨xb, xo, none⟩ = some (.bool xd) := (hbl.cell (p := ⟨xb, xo, none⟩) hxB).trans hsx.c0
      have r1 : wr.cell? ⟨xb, xo + 1, none⟩ = some (.int .i64 xm) := (hbl.cell (p := ⟨xb, xo + 1, none⟩) hxB).trans hsx.c1
      have r2 : wr.cell? ⟨xb, xo + 2, none⟩ = some (.int .i64 xs) := (hbl.cell (p := ⟨xb, xo + 2, none⟩) hxB).trans hsx.c2
      clear hai hxi hsx
      go_upto_region 9 with fail
      have yz := heap_alloc_new wr (.cells #[.bool xd, .int .i64 xm, .int .i64 xs] 27)
      have hP0 := hP
      have hzB : wr.heap.size ≠ B := by have := hP0.lk.lt; omega
      have hP := hP0.bel ((Below.refl _ wr).alloc (Nat.le_refl _) (.cells #[.bool xd, .int .i64 xm, .int .i64 xs] 27))
      have hbW : Below B w (wr.alloc (.cells #[.bool xd, .int .i64 xm, .int .i64 xs] 27)) := hbl.alloc (Nat.le_trans (Nat.le_of_lt hP0.lk.lt) (Nat.le_refl _)) _
      clear r0 r1 r2 hai' hbl hP0
      generalize wr.alloc (.cells #[.bool xd, .int .i64 xm, .int .i64 xs] 27) = W at yz hP hbW ⊢
      generalize wr.heap.size = z at yz hzB ⊢
      have hL := hP.lk
      have hHc := hP.cells
      have hHl := heap_lt hHc
      have hzl := heap_lt yz
      have hBW := Nat.le_of_lt hL.lt
      obtain ⟨sm, hsm⟩ : ∃ sm : Bool, Hid (sm = true ↔ (q = true ∧ hm = xm ∧ hs = xs)) := ⟨decide (q = true ∧ hm = xm ∧ hs = xs), by show (_ ↔ _); simp⟩
      have z0 := (cell_of yz 0).trans (show _ = some (Value.bool xd) from rfl)
      have z1 := (cell_of yz 1).trans (show _ = some (Value.int .i64 xm) from rfl)
      have z2 := (cell_of yz 2).trans (show _ = some (Value.int .i64 xs) from rfl)
      have u0 := (cell_of hHc 0).trans (show _ = some (Value.bool hg) from rfl)
      have u1 := (cell_of hHc 1).trans (show _ = some (Value.int .i64 hm) from rfl)
      have u2 := (cell_of hHc 2).trans (show _ = some (Value.int .i64 hs) from rfl)
      go_cut [13] (fun n13 wx => n13 = .bool sm ∧ wx = W)
      case first =>
          cases q with
          | false =>
            have hs0 : Hid (sm = false) := Bool.eq_false_iff.2 fun h => absurd (hsm.out.1 h).1 (by decide)
            clear hsm
            go_wp2
            all_goals go_meet
            all_goals exact ⟨congrArg _ hs0.out.symm, rfl⟩
          | true =>
            by_cases em : hm = xm
            · have b1 : (hm == xm) = true := by simpa using em
              by_cases es : hs = xs
              · have b2 : (hs == xs) = true := by simpa using es
                have hs0 : Hid (sm = true) := hsm.out.2 ⟨rfl, em, es⟩
                clear hsm em es
                go_wp2
                all_goals go_meet
                all_goals exact ⟨congrArg _ hs0.out.symm, rfl⟩
              · have b2 : (hs == xs) = false := beq_false_of_ne es
                have hs0 : Hid (sm = false) := Bool.eq_false_iff.2 fun h => es (hsm.out.1 h).2.2
                clear hsm em es
                go_wp2
                all_goals go_meet
                all_goals exact ⟨congrArg _ hs0.out.symm, rfl⟩
            · have b1 : (hm == xm) = false := beq_false_of_ne em
              have hs0 : Hid (sm = false) := Bool.eq_false_iff.2 fun h => em (hsm.out.1 h).2.1
              clear hsm em
              go_wp2
              all_goals go_meet
              all_goals exact ⟨congrArg _ hs0.out.symm, rfl⟩
      case rest =>
        obtain ⟨rfl, hwW⟩ := hcut
        rw [hwW]
        clear hwW
        go_upto_if 51 with fail
        go_cut [9, 10] (fun n9 n10 wx => ∃ (q' : Bool) (m' s' : Int) (n' : Nat) (hg' : Bool) (hm' hs' : Int), n9 = .bool q' ∧ n10 = .int .u64 n' ∧ n' ≤ i + 1 ∧ Pl wx B H q' m' s' n' hg' hm' hs' ∧ Below B w wx)
        case first =>
            cases xd with
            | true =>
              cases sm with
              | true =>
                obtain ⟨rfl, e1, e2⟩ := hsm.out.1 rfl
                have e3 := hP.yes rfl
                obtain ⟨rfl, rfl⟩ := e3
                subst e1 e2
                have k2 := give_ok W hL hnl
                go_wp2_with (go_at_call 9; go_loud (refine k2.mono ?_; rintro e v1 ⟨rfl, hv1, hf1⟩))
                all_goals go_meet
                all_goals exact ⟨false, 0, 0, n + 1, hg, hm, hs, rfl, by simp, by omega, ⟨hv1, (hf1.keep _ hHl hHB).trans hHc, fun h => (by cases h), fun _ => ⟨rfl, rfl⟩⟩, hbW.trans hf1.bel⟩
              | false =>
                have k2 := give_bad W hL xm xs (fun h => by
                  have e := hP.yes h.2.2
                  exact absurd (hsm.out.2 ⟨h.2.2, e.1.trans h.1, e.2.trans h.2.1⟩) (by decide))
                go_wp2_with (go_at_call 9; go_loud (refine k2.mono ?_; rintro e v1 ⟨rfl, hv1⟩))
                all_goals go_meet
                all_goals exact ⟨q, m, s, n, hg, hm, hs, rfl, rfl, by omega, hP.bel hv1, hbW.trans (hv1.mono hBW)⟩
            | false =>
              cases q with
              | true =>
                have k2 := take_bad W hL xm xs
                go_wp2_with (go_at_call 10; go_loud (refine k2.mono ?_; rintro e v1 ⟨rfl, hw⟩; rw [hw]; clear hw))
                all_goals go_meet
                all_goals exact ⟨true, m, s, n, hg, hm, hs, rfl, rfl, by omega, hP, hbW⟩
              | false =>
                have k2 := take_ok W hL xm xs
                have yz' := yz
                go_upto_region 20 with (go_at_call 10; go_loud (refine k2.mono ?_; rintro e v1 ⟨rfl, hv1, hf1⟩; have yz := (hf1.keep _ hzl hzB).trans yz'; have z0 := (cell_of yz 0).trans (show _ = some (Value.bool false) from rfl); have z1 := (cell_of yz 1).trans (show _ = some (Value.int .i64 xm) from rfl); have z2 := (cell_of yz 2).trans (show _ = some (Value.int .i64 xs) from rfl); have hHc := (hf1.keep _ hHl hHB).trans hHc; have u0 := (cell_of hHc 0).trans (show _ = some (Value.bool hg) from rfl); have u1 := (cell_of hHc 1).trans (show _ = some (Value.int .i64 hm) from rfl); have u2 := (cell_of hHc 2).trans (show _ = some (Value.int .i64 hs) from rfl); have f0 := froz_of hHc 0; have f1 := froz_of hHc 1; have f2 := froz_of hHc 2))
                go_wp2
                all_goals go_meet
                all_goals exact ⟨true, xm, xs, n, false, xm, xs, rfl, rfl, by omega, ⟨Lk.oth (Lk.oth (Lk.oth (show Lk v1 B xm xs true n from hv1) hHB 0 _) hHB 1 _) hHB 2 _, h_set3 hHc _ _ _, fun _ => ⟨rfl, rfl⟩, fun h => by cases h⟩, bel_set3 (hbW.trans hf1.bel) hBH _ _ _⟩
        case rest =>
          clear z0 z1 z2 u0 u1 u2
          obtain ⟨q', m', s', n', hg', hm', hs', rfl, rfl, hn', hP1, hb1⟩ := hcut
          clear hP hL yz hHc hbW hBW hHl
          have hBl := Nat.le_of_lt hP1.lk.lt
          have k4 := held_any wc hP1.lk
          cases q' with
          | false =>
            obtain ⟨rfl, rfl⟩ := hP1.no rfl
            go_wp2_with (first
              | (go_at_call 11; go_loud (refine k4.mono ?_; rintro e v4 ⟨rfl, hv4⟩; have hP4 := hP1.bel hv4; have k5 := epoch_any v4 hP4.lk; have k6 := is_any v4 hP4.lk a1 a2; rw [show decide ((0 : Int) = a1 ∧ (0 : Int) = a2 ∧ false = true) = false by simp] at k6))
              | (go_at_call 12; go_loud (refine k5.mono ?_; rintro e v5 ⟨rfl, hw⟩; rw [hw]; clear hw))
              | (go_at_call 13; go_loud (refine k6.mono ?_; rintro e v6 ⟨rfl, hv6⟩)))
            refine ⟨⟨i + 1, false, 0, 0, n', hg', hm', hs', rfl, rfl, by simp, by omega, by omega, (hP1.bel hv4).bel hv6, (hb1.trans (hv4.mono hBl)).trans (hv6.mono (Nat.le_trans hBl hv4.size))⟩, by simp [valOf]; omega⟩
          | true =>
            obtain ⟨e1, e2⟩ := hP1.yes rfl
            subst e1 e2
            by_cases em : hm' = a1
            · subst em
              by_cases es : hs' = a2
              · subst es
                go_wp2_with (first
                  | (go_at_call 11; go_loud (refine k4.mono ?_; rintro e v4 ⟨rfl, hv4⟩; have hP4 := hP1.bel hv4; have k5 := epoch_any v4 hP4.lk; have k6 := is_any v4 hP4.lk hm' hs'; rw [show decide (hm' = hm' ∧ hs' = hs' ∧ true = true) = true by simp] at k6; have g1 := (cell_of hP4.cells 1).trans (show _ = some (Value.int .i64 hm') from rfl); have g2 := (cell_of hP4.cells 2).trans (show _ = some (Value.int .i64 hs') from rfl)))
                  | (go_at_call 12; go_loud (refine k5.mono ?_; rintro e v5 ⟨rfl, hw⟩; rw [hw]; clear hw))
                  | (go_at_call 13; go_loud (refine k6.mono ?_; clear k6; rintro e v6 ⟨rfl, hv6⟩; have hP6 := hP4.bel hv6; have k7 := is_any v6 hP6.lk hm' hs'; rw [show decide (hm' = hm' ∧ hs' = hs' ∧ true = true) = true by simp] at k7; have j1 := (cell_of hP6.cells 1).trans (show _ = some (Value.int .i64 hm') from rfl); have j2 := (cell_of hP6.cells 2).trans (show _ = some (Value.int .i64 hs') from rfl)))
                  | (go_at_call 13; go_loud (refine k7.mono ?_; rintro e v7 ⟨rfl, hv7⟩; have hP7 := hP6.bel hv7)))
                refine ⟨⟨i + 1, true, hm', hs', n', hg', hm', hs', rfl, rfl, by simp, by omega, by omega, hP7, ((hb1.trans (hv4.mono hBl)).trans (hv6.mono (Nat.le_trans hBl hv4.size))).trans (hv7.mono (Nat.le_trans (Nat.le_trans hBl hv4.size) hv6.size))⟩, by simp [valOf]; omega⟩
              · have b2 : (hs' == a2) = false := beq_false_of_ne es
                go_wp2_with (first
                  | (go_at_call 11; go_loud (refine k4.mono ?_; rintro e v4 ⟨rfl, hv4⟩; have hP4 := hP1.bel hv4; have k5 := epoch_any v4 hP4.lk; have k6 := is_any v4 hP4.lk hm' a2; rw [show decide (hm' = hm' ∧ hs' = a2 ∧ true = true) = false by simp [es]] at k6; have g1 := (cell_of hP4.cells 1).trans (show _ = some (Value.int .i64 hm') from rfl); have g2 := (cell_of hP4.cells 2).trans (show _ = some (Value.int .i64 hs') from rfl)))
                  | (go_at_call 12; go_loud (refine k5.mono ?_; rintro e v5 ⟨rfl, hw⟩; rw [hw]; clear hw))
                  | (go_at_call 13; go_loud (refine k6.mono ?_; clear k6; rintro e v6 ⟨rfl, hv6⟩; have hP6 := hP4.bel hv6; have k7 := is_any v6 hP6.lk hm' hs'; rw [show decide (hm' = hm' ∧ hs' = hs' ∧ true = true) = true by simp] at k7; have j1 := (cell_of hP6.cells 1).trans (show _ = some (Value.int .i64 hm') from rfl); have j2 := (cell_of hP6.cells 2).trans (show _ = some (Value.int .i64 hs') from rfl)))
                  | (go_at_call 13; go_loud (refine k7.mono ?_; rintro e v7 ⟨rfl, hv7⟩; have hP7 := hP6.bel hv7)))
                refine ⟨⟨i + 1, true, hm', hs', n', hg', hm', hs', rfl, rfl, by simp, by omega, by omega, hP7, ((hb1.trans (hv4.mono hBl)).trans (hv6.mono (Nat.le_trans hBl hv4.size))).trans (hv7.mono (Nat.le_trans (Nat.le_trans hBl hv4.size) hv6.size))⟩, by simp [valOf]; omega⟩
            · have b1 : (hm' == a1) = false := beq_false_of_ne em
              go_wp2_with (first
                | (go_at_call 11; go_loud (refine k4.mono ?_; rintro e v4 ⟨rfl, hv4⟩; have hP4 := hP1.bel hv4; have k5 := epoch_any v4 hP4.lk; have k6 := is_any v4 hP4.lk a1 a2; rw [show decide (hm' = a1 ∧ hs' = a2 ∧ true = true) = false by simp [em]] at k6; have g1 := (cell_of hP4.cells 1).trans (show _ = some (Value.int .i64 hm') from rfl); have g2 := (cell_of hP4.cells 2).trans (show _ = some (Value.int .i64 hs') from rfl)))
                | (go_at_call 12; go_loud (refine k5.mono ?_; rintro e v5 ⟨rfl, hw⟩; rw [hw]; clear hw))
                | (go_at_call 13; go_loud (refine k6.mono ?_; clear k6; rintro e v6 ⟨rfl, hv6⟩; have hP6 := hP4.bel hv6; have k7 := is_any v6 hP6.lk hm' hs'; rw [show decide (hm' = hm' ∧ hs' = hs' ∧ true = true) = true by simp] at k7; have j1 := (cell_of hP6.cells 1).trans (show _ = some (Value.int .i64 hm') from rfl); have j2 := (cell_of hP6.cells 2).trans (show _ = some (Value.int .i64 hs') from rfl)))
                | (go_at_call 13; go_loud (refine k7.mono ?_; rintro e v7 ⟨rfl, hv7⟩; have hP7 := hP6.bel hv7)))
              refine ⟨⟨i + 1, true, hm', hs', n', hg', hm', hs', rfl, rfl, by simp, by omega, by omega, hP7, ((hb1.trans (hv4.mono hBl)).trans (hv6.mono (Nat.le_trans hBl hv4.size))).trans (hv7.mono (Nat.le_trans (Nat.le_trans hBl hv4.size) hv6.size))⟩, by simp [valOf]; omega⟩
    · have d : decide ((i : Int) < L0.length) = false := by simp; omega
      have hend : Below w.heap.size w wr := by rw [hB0.out]; exact hbl
      go_wp2_with (go_at_call 7; refine (kw _).mono ?_; rintro e v1 ⟨rfl, hv1⟩)
      all_goals go_returns
      exact ⟨rfl, hend.trans (hv1.mono hend.size)⟩

theorem readable : ∀ t ∈ Try.f3.params.toList, Try.prog.readableRec t = true ∧ t < Try.prog.types.size := by
  rw [Try.params3]
  intro t ht
  simp at ht
  rcases ht with rfl | rfl | rfl
  all_goals exact ⟨by kernel_rfl, of_decide_eq_true (by kernel_rfl)⟩
set_option maxRecDepth 100000 in
theorem lifted (os : Os) (started : os.Started) (H : Type) (enc : TypeId × Value → H) :
    ReturnsInHanded {} Try.checked os 3 .any (Rows.lockPlaysSpec.pre6 enc Try.prog Try.f3 Rows.lockPlaysRow.domain false) (Rows.lockPlaysSpec.post enc Try.prog Try.f3 false true false false) := by
  refine returnsInHanded_of_change (C := Try.checked) own started (by kernel_rfl) Try.func3
    (ChangeSpec.witness6 (enc := enc) (C := Try.checked) false ⟨#[], #[.slice none 0 0, .int .i64 0, .int .i64 0], []⟩ 8 (by kernel_rfl) (by kernel_rfl) (by kernel_rfl) (by kernel_rfl)) ?_
  intro W base args ds gs before hval0 hW hcnd _
  have hval : ∀ (j : Nat) t v, Try.f3.params[j]? = some t → args[j]? = some v → Value.okWide Try.prog W .any base t v := hval0
  have hW' := hW
  obtain ⟨p, q, hA0, hV, rfl, hfz, hnd⟩ := hW
  have hA : DataW.TrodAll enc Try.prog W 0 (fun _ => true) true Try.f3.params.toList args.toList ds p := hA0
  rw [Try.params3] at hA hval
  obtain ⟨v0, vs0, d0, ds0, p0, q0, hargs, rfl, rfl, h0, r0⟩ := trodAll_cons hA
  obtain ⟨v1, vs1, d1, ds1, p1, q1, rfl, rfl, rfl, h1, r1⟩ := trodAll_cons r0
  obtain ⟨v2, vs2, d2, ds2, p2, q2, rfl, rfl, rfl, h2, r2⟩ := trodAll_cons r1
  obtain ⟨rfl, rfl, rfl⟩ := trodAll_nil r2
  obtain rfl : args = #[v0, v1, v2] := by cases args; simp_all
  obtain ⟨rfl, rfl⟩ := trodVars_none hV
  obtain ⟨p0, L0, c0, rfl, hL0⟩ := open_sts (hval 0 22 v0 rfl rfl) h0
  obtain ⟨a1, rfl, rfl, rfl, w1⟩ := open_int Try.underlying3 (hval 1 3 v1 rfl rfl) h1
  obtain ⟨a2, rfl, rfl, rfl, w2⟩ := open_int Try.underlying3 (hval 2 3 v2 rfl rfl) h2
  clear hA0 hval0
  refine (walk p0 L0 c0 a1 a2 W hL0 w1 w2).mono fun e W' ⟨he, hg⟩ => ?_
  subst he
  exact ⟨_, rfl, post_bel readable hW' rfl (fun _ _ _ => (trodAll_cons_mk (shut_bool Try.underlying4 _) trodAll_mk0)) rfl (fun _ => rfl)
    hg (ok_one (by kernel_rfl) rfl (okWide_bool_mk Try.underlying4 _))⟩

theorem over : Rows.lockPlaysRow.holds Try.pinned (OpenSpec.ofChange Rows.lockPlaysSpec) :=
  OpenClaim.holds_of_wide 3 Try.f3 rfl rfl rfl rfl rfl rfl rfl ⟨rfl, rfl, rfl, rfl, rfl⟩ rfl rfl rfl rfl rfl (by kernel_rfl) Try.func3 (by kernel_rfl)
    (of_decide_eq_true (by kernel_rfl)) (by unfold Func.isWrapper; first | (rw [if_pos (by decide +kernel)]; kernel_rfl) | (rw [if_neg (by decide +kernel)]; exact ⟨rfl, rfl⟩))
    (fun os started H enc _ => lifted os started H enc)

theorem proved : Rows.LockPlaysSaid :=
  over
end Go.Proofs.Ytboahmoplgkmnaa.lockPlays
namespace Go.Proofs.Ytboahmoplgkmnaa
theorem lockPlays_holds : Rows.LockPlaysSaid :=
  lockPlays.proved
#print axioms lockPlays_holds
end Go.Proofs.Ytboahmoplgkmnaa
