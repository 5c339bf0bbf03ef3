/- LockOne: whatever the script, one lock is held at most, and just who took it is given back: the statement as given. No condition. -/
import Derived.Test.YtboahmoplgkmnaaKM
import Derived.Deep.CutBlock
import Derived.WalkKit
import Derived.ProofKit
import Derived.OpenShut
import Derived.ShutString
namespace Go.Proofs.Ytboahmoplgkmnaa.lockOne
open Go.ChangeShapes Go.WideShapes Go.ChangeAt Go.RowKit
open Go.ChangeMaps (open_string shut_string)
set_option linter.unusedVariables false
set_option linter.unusedSimpArgs false

theorem own : ownKnob Try.prog.godebug = none := by kernel_rfl
/-- How often (m, s) is held just now. -/
def oneV (q : Bool) (m s : Int) (k : K.HKey) : Int := if q = true ∧ k = (m, s) then 1 else 0
structure Fv (F : K.HKey → Option Value) (q : Bool) (m s : Int) : Prop where
  val : ∀ k v, F k = some v → v = .int .i64 (oneV q m s k)
  there : q = true → (F (m, s)).isSome = true
theorem Fv.get {F : K.HKey → Option Value} {q : Bool} {m s : Int} (h : Fv F q m s) (k : K.HKey) : (F k).getD (.int .i64 0) = .int .i64 (oneV q m s k) := by
  cases e : F k with
  | none =>
    have : ¬ (q = true ∧ k = (m, s)) := fun ⟨a, b⟩ => by
      have := h.there a
      rw [← b, e] at this
      cases this
    simp [oneV, this]
  | some v => exact h.val k v e
theorem Fv.none : Fv (fun _ => .none) false 0 0 := ⟨by simp, by simp⟩
theorem Fv.take {F : K.HKey → Option Value} {m s : Int} (h : Fv F false m s) (a c : Int) : Fv (K.updH F (a, c) (some (.int .i64 1))) true a c := by
  refine ⟨fun k v e => ?_, fun _ => by rw [K.updH_self]; rfl⟩
  by_cases hk : k = (a, c)
  · subst hk
    rw [K.updH_self] at e
    cases e
    simp [oneV]
  · rw [K.updH_ne _ _ hk] at e
    have := h.val k v e
    simp [oneV, hk] at this ⊢
    exact this
theorem Fv.give {F : K.HKey → Option Value} {m s : Int} (h : Fv F true m s) : Fv (K.updH F (m, s) (some (.int .i64 0))) false 0 0 := by
  refine ⟨fun k v e => ?_, fun h => by cases h⟩
  by_cases hk : k = (m, s)
  · subst hk
    rw [K.updH_self] at e
    cases e
    simp [oneV]
  · rw [K.updH_ne _ _ hk] at e
    have := h.val k v e
    simp [oneV, hk] at this ⊢
    exact this
/-- The sum over what has come. -/
def sumV (q : Bool) (m s : Int) (ss : List K.HKey) : Int := if q = true ∧ (m, s) ∈ ss then 1 else 0
theorem sumV_app {q : Bool} {m s : Int} {ss : List K.HKey} {k : K.HKey} (h : k ∉ ss) : sumV q m s (ss ++ [k]) = sumV q m s ss + oneV q m s k := by
  unfold sumV oneV
  cases q with
  | false => simp
  | true =>
    by_cases e : k = (m, s)
    · subst e; simp [h]
    · have e2 : ¬ (m, s) = k := fun x => e x.symm
      by_cases h1 : (m, s) ∈ ss
      · simp [h1, e]
      · simp [h1, e, e2]
theorem hrg_bel {w w' : World} {m r n c : Nat} {F : K.HKey → Option Value} {ss : List K.HKey} (h : K.HRg w m r n F ss c) (hb : Below w.heap.size w w') : K.HRg w' m r n F ss c := by
  have h' := h
  obtain ⟨es, clock, since, seen, c0, a, b, rest⟩ := h'
  exact h.bel (hb.block m (heap_lt a)) (hb.block r (heap_lt b))
theorem cell_al {w : World} {p : Addr} {v : Value} (hl : p.block < w.heap.size) (h : w.cell? p = some v) {o : Obj} : (w.alloc o).cell? p = some v := by
  have hb := (Below.refl w.heap.size w).alloc (Nat.le_refl _) o
  exact (hb.cell hl).trans h
theorem cell_st {w : World} {p q : Addr} {u v : Value} (hne : p ≠ q) (h : w.cell? q = some v) : (w.setCell p u).cell? q = some v := by
  rw [World.cell?_setCell_other] <;> assumption
theorem zero3 (w : World) : (zeroValue 3).run Try.prog w = .ok (.int .i64 0) w := by kernel_rfl

set_option maxRecDepth 100000 in
set_option maxHeartbeats 16000000 in
theorem walk (p0 : Option Addr) (L0 : List St) (c0 : Nat) (w : World) (hL0 : Sts w p0 L0) :
    Calls Try.prog 4 #[.slice p0 L0.length c0] w fun e w' => e = .returned (.bool true) ∧ Below w.heap.size w w' := by
  have kw := fun W => works_any W
  by_cases hlong : 200 < L0.length
  · have d : decide ((200 : Int) < (L0.length : Int)) = true := by simp; omega
    go_enter Try.func4, Try.ntmps4
    go_wp2_with (go_at_call 7; refine (kw _).mono ?_; rintro e w3 ⟨rfl, hb⟩)
    all_goals go_returns
    exact ⟨rfl, hb⟩
  have d1 : decide ((200 : Int) < (L0.length : Int)) = false := by simp; omega
  have k1 := new_any w
  have hmm := @run_makeMap Try.prog
  go_enter Try.func4, Try.ntmps4
  go_upto_region 5 with (go_at_call 8; refine k1.mono ?_; rintro e w1 ⟨rfl, h1, hb1⟩)
  have hH : K.HM (w1.alloc (.map #[] 0)) w1.heap.size 0 (fun _ => none) := K.HM.new w1
  have hP : Lk (w1.alloc (.map #[] 0)) w.heap.size 0 0 false 0 := h1.bel ((Below.refl _ w1).alloc (Nat.le_refl _) _)
  have hb2 : Below w.heap.size w (w1.alloc (.map #[] 0)) := hb1.alloc hb1.size _
  have hSB : w1.heap.size ≠ w.heap.size := by have := h1.lt; omega
  have hBS : w.heap.size ≤ w1.heap.size := hb1.size
  clear k1 hmm h1 hb1
  generalize w1.alloc (.map #[] 0) = w2 at hH hP hb2 ⊢
  generalize w1.heap.size = S at hSB hBS hH ⊢
  generalize hB0 : w.heap.size = B at hP hb2 hSB hBS ⊢
  replace hB0 : Hid _ := hB0
  replace hL0 : Hid _ := hL0
  go_wp2
  go_loopw [5] (fun n5 wr => ∃ (i : Nat) (q : Bool) (m s : Int) (n c : Nat) (F : K.HKey → Option Value), n5 = .int .i64 i ∧ i ≤ L0.length ∧ n ≤ i ∧ c ≤ i ∧ Lk wr B m s q n ∧ K.HM wr S c F ∧ Fv F q m s ∧ Below B w wr) (fun n5 _ => L0.length - (valOf n5).toNat)
  case atStart => exact ⟨0, false, 0, 0, 0, 0, _, rfl, by omega, by omega, by omega, hP, hH, Fv.none, hb2⟩
  case round =>
    clear hP hH hb2
    obtain ⟨i, q, m, s, n, c, F, rfl, hi, hni, hci, hL, hH, hF, hbl⟩ := hrel
    by_cases hin : i < L0.length
    · have d : decide ((i : Int) < L0.length) = true := by simp; omega
      have e9 : IntKind.i64.wrap ((i : Int) + 1) = (i : Int) + 1 := IntWalk.i64_in _ (by omega)
      have hnl : n < 18446744073709551615 := by omega
      obtain ⟨xb, xo, ⟨xd, xm, xs⟩, hxi, hsx, hxb, _, hai⟩ := idxS hL0.out hin
      have hxB : xb < B := by rw [← hB0.out]; exact hxb
      have hai' := hai c0
      have r0 : wr.cell? ⟨xb, xo, none⟩ = some (.bool xd) := (hbl.cell (p := ⟨xb, xo, none⟩) hxB).trans hsx.c0
      have r1 : wr.cell? ⟨xb, xo + 1, none⟩ = some (.int .i64 xm) := (hbl.cell (p := ⟨xb, xo + 1, none⟩) hxB).trans hsx.c1
      have r2 : wr.cell? ⟨xb, xo + 2, none⟩ = some (.int .i64 xs) := (hbl.cell (p := ⟨xb, xo + 2, none⟩) hxB).trans hsx.c2
      clear hai hxi hsx
      go_upto_region 8 with fail
      go_cut [6] (fun n6 wx => ∃ z, n6 = ptr z ∧ wx.heap[z]? = some (.cells #[.bool false, .int .i64 xm, .int .i64 xs] 27 (0, 0)) ∧ Below wr.heap.size wr wx ∧ wr.heap.size ≤ z)
      case first =>
        have hxl : xb < wr.heap.size := Nat.lt_of_lt_of_le hxB (Nat.le_of_lt hL.lt)
        have hxn : xb ≠ wr.heap.size := by omega
        clear hL hH hF hbl d e9 hnl hi hni hci hin
        go_region_held3 (fun w' => w'.cell? ⟨xb, xo + 1, none⟩ = some (.int .i64 xm) ∧ w'.cell? ⟨xb, xo + 2, none⟩ = some (.int .i64 xs)) ((refine ⟨?_, ?_⟩ <;> repeat (with_reducible (first | assumption | apply cell_dr | apply cell_al hxl | refine cell_st (by simp; omega) ?_)))) (fail)
        all_goals go_wp2
        all_goals go_meet
        all_goals exact ⟨_, rfl, heap_alloc_new wr _, ((Below.refl _ wr).alloc (Nat.le_refl _) _).drew, Nat.le_refl _⟩
      case rest =>
        obtain ⟨z, rfl, yz, hbz, hzn⟩ := hcut
        have hSl0 := hH.lt
        have hBl0 := Nat.le_of_lt hL.lt
        have g0 : wc.cell? ⟨xb, xo, none⟩ = some (.bool xd) := (hbz.cell (p := ⟨xb, xo, none⟩) (Nat.lt_of_lt_of_le hxB hBl0)).trans r0
        have hzB : z ≠ B := by have := hL.lt; omega
        have hzS : z ≠ S := by omega
        replace hL := hL.bel hbz
        replace hH : K.HM wc S c F := hH.keep (hbz.block _ hSl0)
        have hbW : Below B w wc := hbl.trans (hbz.mono hBl0)
        clear r0 r1 r2 hbl hbz hzn hSl0 hBl0
        have hSl := hH.lt
        have hBl := Nat.le_of_lt hL.lt
        have hzl2 := heap_lt yz
        have y0 := (cell_of yz 0).trans (show _ = some (Value.bool false) from rfl)
        have y1 := (cell_of yz 1).trans (show _ = some (Value.int .i64 xm) from rfl)
        have y2 := (cell_of yz 2).trans (show _ = some (Value.int .i64 xs) from rfl)
        go_upto_if 40 with fail
        go_cut [] (fun wx => ∃ (q' : Bool) (m' s' : Int) (n' c' : Nat) (F' : K.HKey → Option Value), n' ≤ i + 1 ∧ c' ≤ i + 1 ∧ Lk wx B m' s' q' n' ∧ K.HM wx S c' F' ∧ Fv F' q' m' s' ∧ Below B w wx)
        case first =>
          cases xd with
          | true =>
            by_cases hold : m = xm ∧ s = xs ∧ q = true
            · obtain ⟨rfl, rfl, rfl⟩ := hold
              have k2 := give_ok wc hL hnl
              have hone : oneV true m s (m, s) = 1 := by simp [oneV]
              go_upto_region 11 with (go_at_call 9; go_loud (refine k2.mono ?_; rintro e v1 ⟨rfl, hv1, hf1⟩))
              clear k2 hL y0 y1 y2 g0
              have hHd : K.HM v1.drew S c F := hH.keep (hf1.keep S hSl hSB)
              have z0 : v1.drew.cell? ⟨z, 0, none⟩ = some (.bool false) := (cell_of ((hf1.keep z hzl2 hzB).trans yz) 0).trans (show _ = some (Value.bool false) from rfl)
              have z1 : v1.drew.cell? ⟨z, 1, none⟩ = some (.int .i64 m) := (cell_of ((hf1.keep z hzl2 hzB).trans yz) 1).trans (show _ = some (Value.int .i64 m) from rfl)
              have z2 : v1.drew.cell? ⟨z, 2, none⟩ = some (.int .i64 s) := (cell_of ((hf1.keep z hzl2 hzB).trans yz) 2).trans (show _ = some (Value.int .i64 s) from rfl)
              obtain ⟨st, W1, em, hM1, hT1, hes⟩ := K.HM.bump Try.underlying36 hHd (m, s) zero3
              obtain ⟨W2, es, h0, hT2⟩ := hes W1 (.int .i64 0) rfl
              have l0 := K.HM.look1 Try.underlying36 hHd (m, s) (zero3 _)
              have l1 := K.HM.look1 Try.underlying36 hM1 (m, s) (zero3 _)
              rw [K.updH_self, Option.getD_some] at l1
              rw [hF.get] at em l0 l1
              rw [hone] at em l0 l1
              simp only [K.hK, goInt] at em l0 l1 es
              have hL2 : Lk W2 B 0 0 false (n + 1) := (hT2.grown.block B (Nat.lt_of_lt_of_le (show B < v1.drew.heap.size from hv1.lt) hT1.grown.size) (by rintro e; cases e; exact hSB rfl)).trans ((hT1.grown.block B hv1.lt (by rintro e; cases e; exact hSB rfl)).trans hv1)
              have hv1l := Nat.le_of_lt hv1.lt
              have hbv : Below B w v1 := hbW.trans hf1.bel
              have hb2 : Below B w W2 := (hbv.drew.grown hT1.grown hv1l (fun k e => by cases e; exact hBS)).grown hT2.grown (Nat.le_trans hv1l hT1.grown.size) (fun k e => by cases e; exact hBS)
              clear hHd hM1 hT1 hes hT2 hv1 hf1 hbv hv1l yz hone
              have ew : IntKind.i64.wrap 0 = 0 := by decide
              go_region_with (fail)
              all_goals go_wp2
              all_goals go_meet
              all_goals exact ⟨false, 0, 0, (n + 1), c + 1, _, by omega, by omega, hL2, h0, hF.give, hb2⟩
            · have k2 := give_bad wc hL xm xs hold
              go_wp2_with (go_at_call 9; go_loud (refine k2.mono ?_; rintro e v1 ⟨rfl, hv1⟩))
              all_goals go_meet
              all_goals exact ⟨q, m, s, n, c, F, by omega, by omega, hL.bel hv1, hH.keep (hv1.block _ hSl), hF, hbW.trans (hv1.mono hBl)⟩
          | false =>
            cases q with
            | true =>
              have k2 := take_bad wc hL xm xs
              go_wp2_with (go_at_call 10; go_loud (refine k2.mono ?_; rintro e v1 ⟨rfl, hw⟩; rw [hw]; clear hw))
              all_goals go_meet
              all_goals exact ⟨true, m, s, n, c, F, by omega, by omega, hL, hH, hF, hbW⟩
            | false =>
              have k2 := take_ok wc hL xm xs
              have hone : oneV false m s (xm, xs) = 0 := by simp [oneV]
              go_upto_region 13 with (go_at_call 10; go_loud (refine k2.mono ?_; rintro e v1 ⟨rfl, hv1, hf1⟩))
              clear k2 hL y0 y1 y2 g0
              have hHd : K.HM v1.drew S c F := hH.keep (hf1.keep S hSl hSB)
              have z0 : v1.drew.cell? ⟨z, 0, none⟩ = some (.bool false) := (cell_of ((hf1.keep z hzl2 hzB).trans yz) 0).trans (show _ = some (Value.bool false) from rfl)
              have z1 : v1.drew.cell? ⟨z, 1, none⟩ = some (.int .i64 xm) := (cell_of ((hf1.keep z hzl2 hzB).trans yz) 1).trans (show _ = some (Value.int .i64 xm) from rfl)
              have z2 : v1.drew.cell? ⟨z, 2, none⟩ = some (.int .i64 xs) := (cell_of ((hf1.keep z hzl2 hzB).trans yz) 2).trans (show _ = some (Value.int .i64 xs) from rfl)
              obtain ⟨st, W1, em, hM1, hT1, hes⟩ := K.HM.bump Try.underlying36 hHd (xm, xs) zero3
              obtain ⟨W2, es, hxm, hT2⟩ := hes W1 (.int .i64 1) rfl
              have l0 := K.HM.look1 Try.underlying36 hHd (xm, xs) (zero3 _)
              have l1 := K.HM.look1 Try.underlying36 hM1 (xm, xs) (zero3 _)
              rw [K.updH_self, Option.getD_some] at l1
              rw [hF.get] at em l0 l1
              rw [hone] at em l0 l1
              simp only [K.hK, goInt] at em l0 l1 es
              have hL2 : Lk W2 B xm xs true n := (hT2.grown.block B (Nat.lt_of_lt_of_le (show B < v1.drew.heap.size from hv1.lt) hT1.grown.size) (by rintro e; cases e; exact hSB rfl)).trans ((hT1.grown.block B hv1.lt (by rintro e; cases e; exact hSB rfl)).trans hv1)
              have hv1l := Nat.le_of_lt hv1.lt
              have hbv : Below B w v1 := hbW.trans hf1.bel
              have hb2 : Below B w W2 := (hbv.drew.grown hT1.grown hv1l (fun k e => by cases e; exact hBS)).grown hT2.grown (Nat.le_trans hv1l hT1.grown.size) (fun k e => by cases e; exact hBS)
              clear hHd hM1 hT1 hes hT2 hv1 hf1 hbv hv1l yz hone
              have ew : IntKind.i64.wrap 1 = 1 := by decide
              go_region_with (fail)
              all_goals go_wp2
              all_goals go_meet
              all_goals exact ⟨true, xm, xs, n, c + 1, _, by omega, by omega, hL2, hxm, hF.take xm xs, hb2⟩
        case rest =>
          obtain ⟨q', m', s', n', c', F', hn', hc', hL1, hH1, hF1, hb1⟩ := hcut
          clear hL hH hF hbW hSl hBl hzl2 yz y0 y1 y2 g0 hzB hzS hnl hni hci
          go_upto_region 15 with fail
          go_wp2_with (at_range; refine K.l_range _ rfl _ 36 3 rfl Try.underlying36 rfl hH1 ?_; intro w3 c3 hrg hc3 hg3 hs3)
          have hBx := hL1.lt
          have hL3 : Lk w3 B m' s' q' n' := (hg3.block B hBx (by simp)).trans hL1
          have hb3 : Below B w w3 := hb1.grown hg3 (Nat.le_of_lt hBx) (fun k e => by cases e)
          have hrB : B ≤ wc.heap.size := Nat.le_of_lt hBx
          have hrn : wc.heap.size ≠ B := by omega
          clear hL1 hH1 hb1 hg3 hs3 hBx
          generalize wc.heap.size = r at hrg hrB hrn ⊢
          go_loopw [7] (fun n7 wy => ∃ (ss : List K.HKey) (cnt : Nat), n7 = .int .i64 (sumV q' m' s' ss) ∧ K.HRg wy S r c' F' ss cnt ∧ Lk wy B m' s' q' n' ∧ Below B w wy) (fun _ wy => wy.rangeLeft S r)
          case atStart => exact ⟨[], c3, by simp [sumV], hrg, hL3, hb3⟩
          case round =>
            clear hL3 hb3 hrg
            obtain ⟨ss, cnt, rfl, hrg, hL3, hb3⟩ := hrel
            go_wp2_with (at_next; refine K.l_next _ rfl _ rfl rfl hrg ?_ ?_)
            · intro hc0 hl0
              have k4 := held_any wr hL3
              have hB3 := Nat.le_of_lt hL3.lt
              cases q' with
              | false =>
                rw [show sumV false m' s' ss = 0 by simp [sumV]]
                go_wp2_with (go_at_call 11; go_loud (refine k4.mono ?_; rintro e v4 ⟨rfl, hv4⟩))
                obtain ⟨es, cl, _, _, _, h1, _, h3, h4, h5, h6, _⟩ := hrg_bel hrg hv4
                refine ⟨⟨i + 1, false, m', s', n', c', F', by simp, by omega, by omega, by omega, hL3.bel hv4, ⟨es, cl, h1, h3, h4, h5, h6⟩, hF1, hb3.trans (hv4.mono hB3)⟩, by simp [valOf]; omega⟩
              | true =>
                have hms : (m', s') ∈ ss := (hl0 m' s').2 (hF1.there rfl)
                rw [show sumV true m' s' ss = 1 by simp [sumV, hms]]
                go_wp2_with (go_at_call 11; go_loud (refine k4.mono ?_; rintro e v4 ⟨rfl, hv4⟩))
                obtain ⟨es, cl, _, _, _, h1, _, h3, h4, h5, h6, _⟩ := hrg_bel hrg hv4
                refine ⟨⟨i + 1, true, m', s', n', c', F', by simp, by omega, by omega, by omega, hL3.bel hv4, ⟨es, cl, h1, h3, h4, h5, h6⟩, hF1, hb3.trans (hv4.mono hB3)⟩, by simp [valOf]; omega⟩
            · intro f1 f2 v w4 cnt4 hFf hnf hrg4 hlt4 hg4 hs4 hen
              have hv := hF1.val _ _ hFf
              subst hv
              have hsa := sumV_app (q := q') (m := m') (s := s') hnf
              have hle := hrg.left_eq
              have hen' : (Instr.entry (.pointer (some ⟨r, 0, none⟩))).run Try.prog w4 = .ok (.tuple #[.agg #[.bool false, .int .i64 f1, .int .i64 f2], .int .i64 (oneV q' m' s' (f1, f2))]) w4 := hen
              clear hen
              have hL4 : Lk w4 B m' s' q' n' := (hg4.block B hL3.lt (by rintro e; cases e; exact hrn rfl)).trans hL3
              have hb4 : Below B w w4 := hb3.grown hg4 (Nat.le_of_lt hL3.lt) (fun k e => by cases e; exact hrB)
              clear hrg hL3 hb3 hg4 hs4
              go_upto_region 18 with fail
              have yn := heap_alloc_new w4 (.cells #[.bool false, .int .i64 f1, .int .i64 f2] 27)
              have hrg5 := hrg_bel hrg4 ((Below.refl _ w4).alloc (Nat.le_refl _) (.cells #[.bool false, .int .i64 f1, .int .i64 f2] 27))
              have hL5 := hL4.bel ((Below.refl _ w4).alloc (Nat.le_refl _) (.cells #[.bool false, .int .i64 f1, .int .i64 f2] 27))
              have hb5 := hb4.alloc (Nat.le_of_lt hL4.lt) (.cells #[.bool false, .int .i64 f1, .int .i64 f2] 27)
              clear hrg4 hL4 hb4 hen'
              generalize w4.alloc (.cells #[.bool false, .int .i64 f1, .int .i64 f2] 27) = w5 at yn hrg5 hL5 hb5 ⊢
              generalize w4.heap.size = yb at yn ⊢
              have x1 := (cell_of yn 1).trans (show _ = some (Value.int .i64 f1) from rfl)
              have x2 := (cell_of yn 2).trans (show _ = some (Value.int .i64 f2) from rfl)
              have k6 := is_any w5 hL5 f1 f2
              have hB5 := Nat.le_of_lt hL5.lt
              have hs01 : sumV q' m' s' ss = 0 ∨ sumV q' m' s' ss = 1 := by unfold sumV; split <;> simp
              by_cases hk : q' = true ∧ (f1, f2) = (m', s')
              · have h1 : oneV q' m' s' (f1, f2) = 1 := by unfold oneV; rw [if_pos hk]
                rw [h1] at hsa ⊢
                rw [show decide (m' = f1 ∧ s' = f2 ∧ q' = true) = true by obtain ⟨a, b⟩ := hk; cases b; simp [a]] at k6
                obtain ⟨rfl, hk⟩ := hk
                clear hk h1
                have e7 : IntKind.i64.wrap (sumV true m' s' ss + 1) = sumV true m' s' ss + 1 := IntWalk.i64_in _ (by omega)
                go_wp2_with (go_at_call 13; go_loud (refine k6.mono ?_; rintro e w6 ⟨rfl, hb6⟩))
                have hrg7 := hrg_bel hrg5 hb6
                refine ⟨⟨ss ++ [(f1, f2)], cnt4, by rw [hsa], hrg7, hL5.bel hb6, hb5.trans (hb6.mono hB5)⟩, ?_⟩
                rw [hrg7.left_eq, hle]; exact hlt4
              · have h1 : oneV q' m' s' (f1, f2) = 0 := by simp only [oneV, if_neg hk]
                rw [h1] at hsa ⊢
                rw [show decide (m' = f1 ∧ s' = f2 ∧ q' = true) = false by
                  rw [decide_eq_false_iff_not]
                  rintro ⟨rfl, rfl, a⟩
                  exact hk ⟨a, rfl⟩] at k6
                have e7 : IntKind.i64.wrap (sumV q' m' s' ss) = sumV q' m' s' ss := IntWalk.i64_in _ (by omega)
                rw [Int.add_zero] at hsa
                go_wp2_with (go_at_call 13; go_loud (refine k6.mono ?_; rintro e w6 ⟨rfl, hb6⟩))
                have hrg7 := hrg_bel hrg5 hb6
                refine ⟨⟨ss ++ [(f1, f2)], cnt4, by rw [hsa], hrg7, hL5.bel hb6, hb5.trans (hb6.mono hB5)⟩, ?_⟩
                rw [hrg7.left_eq, hle]; exact hlt4
    · have d : decide ((i : Int) < L0.length) = false := by simp; omega
      have hend : Below w.heap.size w wr := by rw [hB0.out]; exact hbl
      go_wp2_with (go_at_call 7; refine (kw _).mono ?_; rintro e v1 ⟨rfl, hv1⟩)
      all_goals go_returns
      exact ⟨rfl, hend.trans (hv1.mono hend.size)⟩

theorem readable : ∀ t ∈ Try.f4.params.toList, Try.prog.readableRec t = true ∧ t < Try.prog.types.size := by
  rw [Try.params4]
  intro t ht
  simp at ht
  rcases ht with rfl
  all_goals exact ⟨by kernel_rfl, of_decide_eq_true (by kernel_rfl)⟩
set_option maxRecDepth 100000 in
theorem lifted (os : Os) (started : os.Started) (H : Type) (enc : TypeId × Value → H) :
    ReturnsInHanded {} Try.checked os 4 .any (Rows.lockOneSpec.pre6 enc Try.prog Try.f4 Rows.lockOneRow.domain false) (Rows.lockOneSpec.post enc Try.prog Try.f4 false true false false) := by
  refine returnsInHanded_of_change (C := Try.checked) own started (by kernel_rfl) Try.func4
    (ChangeSpec.witness6 (enc := enc) (C := Try.checked) false ⟨#[], #[.slice none 0 0], []⟩ 8 (by kernel_rfl) (by kernel_rfl) (by kernel_rfl) (by kernel_rfl)) ?_
  intro W base args ds gs before hval0 hW hcnd _
  have hval : ∀ (j : Nat) t v, Try.f4.params[j]? = some t → args[j]? = some v → Value.okWide Try.prog W .any base t v := hval0
  have hW' := hW
  obtain ⟨p, q, hA0, hV, rfl, hfz, hnd⟩ := hW
  have hA : DataW.TrodAll enc Try.prog W 0 (fun _ => true) true Try.f4.params.toList args.toList ds p := hA0
  rw [Try.params4] at hA hval
  obtain ⟨v0, vs0, d0, ds0, p0, q0, hargs, rfl, rfl, h0, r0⟩ := trodAll_cons hA
  obtain ⟨rfl, rfl, rfl⟩ := trodAll_nil r0
  obtain rfl : args = #[v0] := by cases args; simp_all
  obtain ⟨rfl, rfl⟩ := trodVars_none hV
  obtain ⟨p0, L0, c0, rfl, hL0⟩ := open_sts (hval 0 22 v0 rfl rfl) h0
  clear hA0 hval0
  refine (walk p0 L0 c0 W hL0).mono fun e W' ⟨he, hg⟩ => ?_
  subst he
  exact ⟨_, rfl, post_bel readable hW' rfl (fun _ _ _ => (trodAll_cons_mk (shut_bool Try.underlying4 _) trodAll_mk0)) rfl (fun _ => rfl)
    hg (ok_one (by kernel_rfl) rfl (okWide_bool_mk Try.underlying4 _))⟩

theorem over : Rows.lockOneRow.holds Try.pinned (OpenSpec.ofChange Rows.lockOneSpec) :=
  OpenClaim.holds_of_wide 4 Try.f4 rfl rfl rfl rfl rfl rfl rfl ⟨rfl, rfl, rfl, rfl, rfl⟩ rfl rfl rfl rfl rfl (by kernel_rfl) Try.func4 (by kernel_rfl)
    (of_decide_eq_true (by kernel_rfl)) (by unfold Func.isWrapper; first | (rw [if_pos (by decide +kernel)]; kernel_rfl) | (rw [if_neg (by decide +kernel)]; exact ⟨rfl, rfl⟩))
    (fun os started H enc _ => lifted os started H enc)

theorem proved : Rows.LockOneSaid :=
  over
end Go.Proofs.Ytboahmoplgkmnaa.lockOne
namespace Go.Proofs.Ytboahmoplgkmnaa
theorem lockOne_holds : Rows.LockOneSaid :=
  lockOne.proved
#print axioms lockOne_holds
end Go.Proofs.Ytboahmoplgkmnaa
