/- TreePlays: what each call answers, which handle stands where, and that the tree stays low, behind any calls (P16.1, P16.2), for any script: the statement as given. No condition. -/
import Derived.Test.YthgmfcklipkbiaaTV
import Derived.Deep.CutBlock
import Derived.WalkKit
import Derived.ProofKit
import Derived.OpenShut
import Derived.ShutString
namespace Go.Proofs.Ythgmfcklipkbiaa.treePlays
open Go.ChangeShapes Go.WideShapes Go.ChangeAt Go.RowKit
open Go.ChangeMaps (open_string shut_string)
set_option linter.unusedVariables false
set_option linter.unusedSimpArgs false

theorem own : ownKnob Try.prog.godebug = none := by kernel_rfl
/-- A handle that is in. -/
theorem in_at {K : List HKey} (hn : K.Nodup) {k : HKey} (h : k ∈ K) : ∃ j : Nat, K[j]? = some k ∧ atI K k = j ∧ idxR K k = j ∧ K.take j ++ K.drop (j + 1) = K.erase k := by
  obtain ⟨j, hj⟩ := List.getElem?_of_mem h
  refine ⟨j, hj, ?_, ?_, cut_mid hn hj⟩
  · unfold atI; rw [if_pos h, idx_atG hn hj]
  · unfold idxR; rw [if_pos h, idx_atG hn hj]
theorem out_at {K : List HKey} {k : HKey} (h : k ∉ K) : atI K k = -1 ∧ idxR K k = 0 ∧ K.erase k = K := by
  refine ⟨?_, ?_, List.erase_of_not_mem h⟩
  · unfold atI; rw [if_neg h]
  · unfold idxR; rw [if_neg h]
theorem insK_len (K : List HKey) (i : Int) (k : HKey) : (insK K i k).length ≤ K.length + 1 := by
  unfold insK
  split
  · simp; omega
  · omega

set_option maxRecDepth 100000 in
set_option maxHeartbeats 16000000 in
theorem walk (p0 : Option Addr) (L0 : List St) (c0 : Nat) (w : World) (hL0 : Sts w p0 L0) :
    Calls Try.prog 3 #[.slice p0 L0.length c0] w fun e w' => e = .returned (.bool true) ∧ Below w.heap.size w w' := by
  have kw := fun W => works_any W
  by_cases hlong : 200 < L0.length
  · have d : decide ((200 : Int) < (L0.length : Int)) = true := by simp; omega
    go_enter Try.func3, Try.ntmps3
    go_wp2_with (go_at_call 8; refine (kw _).mono ?_; rintro e w3 ⟨rfl, hb⟩)
    all_goals go_returns
    exact ⟨rfl, hb⟩
  have d1 : decide ((200 : Int) < (L0.length : Int)) = false := by simp; omega
  have k1 := new_tk w
  go_enter Try.func3, Try.ntmps3
  go_upto_region 4 with (go_at_call 9; refine k1.mono ?_; rintro e w1 ⟨b, rfl, h1, hb1⟩)
  clear k1
  go_upto_region 5 with fail
  have hb2 : Below w.heap.size w (w1.alloc (.cells #[.slice none 0 0] 31)) := hb1.alloc h1.size _
  have h2 := h1.alloc (.cells #[.slice none 0 0] 31)
  have hR2 : Rl (w1.alloc (.cells #[.slice none 0 0] 31)) w.heap.size w1.heap.size [] (.slice none 0 0) := ⟨heap_alloc_new w1 _, h1.size, World.ownsRow_nil _ _ _ _, by simp⟩
  clear h1 hb1
  generalize w1.alloc (.cells #[.slice none 0 0] 31) = w2 at hb2 h2 hR2 ⊢
  generalize w1.heap.size = r at hR2 ⊢
  generalize hB0 : w.heap.size = B at h2 hb2 hR2 ⊢
  replace hB0 : Hid _ := hB0
  replace hL0 : Hid _ := hL0
  go_wp2
  clear d1
  go_loopw [5, 6, 7, 8, 9, 10, 11, 12, 13, 14] (fun n5 _ _ _ _ _ _ _ _ _ wr => ∃ (i : Nat) (K : List HKey) (v : Value), n5 = .int .i64 i ∧ i ≤ L0.length ∧ Tk wr B b K ∧ Rl wr B r K v ∧ K.length ≤ i ∧ Below B w wr) (fun n5 _ _ _ _ _ _ _ _ _ _ => L0.length - (valOf n5).toNat)
  case atStart => exact ⟨0, [], _, rfl, by omega, h2, hR2, by simp, hb2⟩
  case round =>
    clear h2 hb2 hR2
    obtain ⟨i, K, v, rfl, hi, hTk, hR, hlK, hbl⟩ := hrel
    by_cases hin : i < L0.length
    · have d : decide ((i : Int) < L0.length) = true := by simp; omega
      have e9 : IntKind.i64.wrap ((i : Int) + 1) = (i : Int) + 1 := IntWalk.i64_in _ (by omega)
      obtain ⟨xb, xo, x, hxj, hxa, hxb, hai⟩ := idxS hL0.out hin
      have hB1 := hB0.out
      have hbs := hbl.size
      obtain ⟨xd, xi, xs, xg⟩ := x
      have r0 := (hbl.cell (p := ⟨xb, xo, none⟩) (by simp; omega)).trans hxa.c0
      have r1 := (hbl.cell (p := ⟨xb, xo + 1, none⟩) (by simp; omega)).trans hxa.c1
      have r2 := (hbl.cell (p := ⟨xb, xo + 2, none⟩) (by simp; omega)).trans hxa.c2
      have r3 := (hbl.cell (p := ⟨xb, xo + 3, none⟩) (by simp; omega)).trans hxa.c3
      simp only at r0 r1 r2 r3
      have hai' := hai c0
      go_upto_region 9 with fail
      have hz := heap_alloc_new wr (.cells #[.bool xd, .int .i64 xi, .int .i64 xs, .int .u64 xg] 36)
      replace hTk := hTk.alloc (.cells #[.bool xd, .int .i64 xi, .int .i64 xs, .int .u64 xg] 36)
      have hR' := hR.alloc (.cells #[.bool xd, .int .i64 xi, .int .i64 xs, .int .u64 xg] 36)
      replace hbl : Below B w (wr.alloc (.cells #[.bool xd, .int .i64 xi, .int .i64 xs, .int .u64 xg] 36)) := hbl.alloc hR.size _
      clear r0 r1 r2 r3 hai hai' hxa hxb hxj hR
      have hR := hR'
      clear hR'
      generalize wr.alloc (.cells #[.bool xd, .int .i64 xi, .int .i64 xs, .int .u64 xg] 36) = wr' at hz hTk hR hbl ⊢
      generalize wr.heap.size = z at hz ⊢
      have x0 := fun p : BlBy wr' => (p.bl.cell (p := ⟨z, 0, none⟩) (heap_lt hz)).trans (by rw [cell_of hz]; rfl : wr'.cell? ⟨z, 0, none⟩ = some (.bool xd))
      have x2 := fun p : BlBy wr' => (p.bl.cell (p := ⟨z, 2, none⟩) (heap_lt hz)).trans (by rw [cell_of hz]; rfl : wr'.cell? ⟨z, 2, none⟩ = some (.int .i64 xs))
      have x3 := fun p : BlBy wr' => (p.bl.cell (p := ⟨z, 3, none⟩) (heap_lt hz)).trans (by rw [cell_of hz]; rfl : wr'.cell? ⟨z, 3, none⟩ = some (.int .u64 (xg : Int)))
      have kA := fun p : BlBy wr' => rat_at (hR.below p.bl) hTk.nd (xs, xg)
      simp only at kA
      have hkn := hTk.nd
      try dsimp only [List.append]
      try simp only [List.append_eq, List.cons_append, List.nil_append]
      have hne : Nonempty (BlBy wr') := ⟨⟨wr', Below.refl _ wr'⟩⟩
      refine wp_region_bl (by kernel_rfl) (by kernel_rfl) ?_
      repeat (first
        | go_big_quiet_skip
        | (go_big_quiet_want; go_big_quiet_op; first
          | go_big_quiet_on
          | (apply Exists.intro
             refine ⟨fun p => ?_, ?_⟩
             · first
                 | (go_at_call 10; exact calls_bl (kA p))
             go_big_quiet_on)))
      refine wpQuiet_nil ?_
      intro wq hw'
      obtain ⟨⟨wq2, hq⟩, e⟩ := hw'
      simp only at e
      subst e
      replace hTk := hTk.keep hq
      replace hR := hR.below hq
      replace hz := (hq.block _ (heap_lt hz)).trans hz
      replace hbl := hbl.trans (hq.mono (by have := hbl.size; omega))
      clear kA hq x0 x2 x3 hne
      generalize hwq : wq = wr' at hTk hR hz hbl ⊢
      clear hwq
      have x0 := (cell_of hz 0).trans (show _ = some (Value.bool xd) from rfl)
      have x1 := (cell_of hz 1).trans (show _ = some (Value.int .i64 xi) from rfl)
      have x2 := (cell_of hz 2).trans (show _ = some (Value.int .i64 xs) from rfl)
      have x3 := (cell_of hz 3).trans (show _ = some (Value.int .u64 (xg : Int)) from rfl)
      go_upto_if 39 with fail
      go_cut [7, 8, 9] (fun _ _ _ wx => ∃ (K2 : List HKey) (v2 : Value), Tk wx B b K2 ∧ Rl wx B r K2 v2 ∧ K2.length ≤ i + 1 ∧ wx.heap[z]? = some (.cells #[.bool xd, .int .i64 xi, .int .i64 xs, .int .u64 (xg : Int)] 36 (0, 0)) ∧ Below B w wx)
      case first =>
        cases xd with
        | true =>
          by_cases hkin : ((xs, xg) : HKey) ∈ K
          · as_aux_lemma =>
            obtain ⟨j, hj, ha, hi2, hce⟩ := in_at hTk.nd hkin
            have kR := rem_yes hTk j _ hj
            simp only at kR
            rw [hce] at kR
            rw [ha]
            have dge : decide ((0 : Int) ≤ (j : Int)) = true := by simp
            have dge2 : decide ((j : Int) ≥ (0 : Int)) = true := by simp
            have jj : ((j : Int) == (j : Int)) = true := by simp
            replace hkin : Hid _ := hkin
            go_upto_region 15 with (go_at_call 11; go_loud (refine kR.mono ?_; rintro e w3 ⟨rfl, h3, hF3⟩))
            have hR3 := hR.ft hF3
            have hz3 := hF3.keep _ _ _ hz (by decide)
            have e3 := hbl.trans hF3.bel
            clear kR x0 x1 x2 x3 hz hTk hbl dge dge2 jj
            have kC := rcut_any w3 B r K v hR3 j _ hj
            rw [hce] at kC
            go_wp2_with (go_at_call 12; go_loud (refine kC.mono ?_; rintro e w4 ⟨rfl, ⟨v4, hR4⟩, hF4⟩))
            have h4 := h3.fr hR3 hF4
            have hz4 := (hF4.keep _ (heap_lt hz3) (by rintro rfl; have := hR3.cells; rw [hz3] at this; cases this)).trans hz3
            go_wp2
            all_goals go_meet
            exact ⟨_, v4, h4, hR4, by have := List.length_erase_of_mem hkin.out; omega, hz4, e3.trans hF4.bel⟩
          · as_aux_lemma =>
            obtain ⟨ha, hi2, hce⟩ := out_at hkin
            have kR := rem_tk wr' B b K hTk (xs, xg)
            rw [hce, hi2, decide_eq_false hkin] at kR
            simp only at kR
            rw [ha]
            go_upto_region 14 with (go_at_call 11; go_loud (refine kR.mono ?_; rintro e w3 ⟨rfl, h3, hF3⟩))
            have hR3 := hR.ft hF3
            have hz3 := hF3.keep _ _ _ hz (by decide)
            have e3 := hbl.trans hF3.bel
            go_wp2
            all_goals go_meet
            exact ⟨_, v, h3, hR3, by omega, hz3, e3⟩
        | false =>
          as_aux_lemma =>
          have kI := ins_tk wr'.drew B b K hTk.drew (by omega) xi (xs, xg)
          have kS := fun W (hR : Rl W B r K v) => rins_any W B r K v hR hTk.nd (by omega) xi (xs, xg)
          have hin := insK_len K xi (xs, xg)
          have hrr : (insR K xi (xs, xg) == insR K xi (xs, xg)) = true := by simp
          generalize insR K xi (xs, xg) = rr at kI kS hrr
          generalize hK' : insK K xi (xs, xg) = K' at kI kS hin
          go_upto_region 16 with fail
          go_region_held3 (fun w' => w'.cell? ⟨z, 0, none⟩ = some (.bool false) ∧ w'.cell? ⟨z, 1, none⟩ = some (.int .i64 xi) ∧ w'.cell? ⟨z, 2, none⟩ = some (.int .i64 xs) ∧ w'.cell? ⟨z, 3, none⟩ = some (.int .u64 (xg : Int))) ((refine ⟨?_, ?_, ?_, ?_⟩ <;> repeat (with_reducible (first | assumption | apply cell_dr)))) (first
            | (go_at_call 13; go_loud (refine kI.mono ?_; rintro e w3 ⟨rfl, h3, hF3⟩; have hR3 := hR.drew.ft hF3; have hz3 := hF3.keep _ _ _ (show wr'.drew.heap[z]? = _ from hz) (by decide); have y0 := (cell_of hz3 0).trans (show _ = some (Value.bool false) from rfl); have y1 := (cell_of hz3 1).trans (show _ = some (Value.int .i64 xi) from rfl); have y2 := (cell_of hz3 2).trans (show _ = some (Value.int .i64 xs) from rfl); have y3 := (cell_of hz3 3).trans (show _ = some (Value.int .u64 (xg : Int)) from rfl)))
            | (go_at_call 14; go_loud (refine (kS _ hR3).mono ?_; rintro e w4 ⟨rfl, ⟨v4, hR4⟩, hF4⟩; have hz4 := (hF4.keep _ (heap_lt hz3) (by rintro rfl; have := hR3.cells; rw [hz3] at this; cases this)).trans hz3; have t0 := (cell_of hz4 0).trans (show _ = some (Value.bool false) from rfl); have t1 := (cell_of hz4 1).trans (show _ = some (Value.int .i64 xi) from rfl); have t2 := (cell_of hz4 2).trans (show _ = some (Value.int .i64 xs) from rfl); have t3 := (cell_of hz4 3).trans (show _ = some (Value.int .u64 (xg : Int)) from rfl))))
          have h4 := h3.fr hR3 hF4
          go_wp2
          all_goals go_meet
          exact ⟨_, v4, h4, hR4, by omega, hz4, (hbl.drew.trans hF3.bel).trans hF4.bel⟩
      case rest =>
        obtain ⟨K2, v2, h2, hR2, hl2, hz2, e2⟩ := hcut
        clear hTk hR hz hbl x0 x1 x2 x3 hkn
        have x0 := (cell_of hz2 0).trans (show _ = some (Value.bool xd) from rfl)
        have x1 := (cell_of hz2 1).trans (show _ = some (Value.int .i64 xi) from rfl)
        have x2 := (cell_of hz2 2).trans (show _ = some (Value.int .i64 xs) from rfl)
        have x3 := (cell_of hz2 3).trans (show _ = some (Value.int .u64 (xg : Int)) from rfl)
        generalize hwc : wc = w2 at h2 hR2 hz2 e2 x0 x1 x2 x3 ⊢
        clear hwc
        by_cases hneg : xi < 0
        · have g5 : decide ((0 : Int) ≤ xi) = false := decide_eq_false (by omega)
          have g6 : decide (xi ≥ (0 : Int)) = false := g5
          have hno : atM K2 xi = none := by unfold atM; rw [if_pos hneg]
          by_cases hkin : ((xs, xg) : HKey) ∈ K2
          · as_aux_lemma =>
              obtain ⟨px, cx, rfl⟩ := own_shape hR2.row
              have ka := at_tk w2 B b K2 h2 xi
              rw [hno] at ka
              replace ka : Calls Try.prog 15 #[.pointer (some ⟨b, 0, none⟩), .int .i64 xi] w2 fun e w' => e = .returned (.tuple #[.agg #[.int .i64 0, .int .u64 0], .bool false]) ∧ Below w2.heap.size w2 w' := ka
              go_upto_region 19 with (go_at_call 15; go_loud (refine ka.mono ?_; rintro e w5 ⟨rfl, hb5⟩))
              have hzn := heap_alloc_new w5 (.cells #[.int .i64 0, .int .u64 0] 34)
              have h6 := (h2.keep hb5).alloc (.cells #[.int .i64 0, .int .u64 0] 34)
              have hR6 := (hR2.below hb5).alloc (.cells #[.int .i64 0, .int .u64 0] 34)
              have hz6 := heap_al ((hb5.block _ (heap_lt hz2)).trans hz2) (.cells #[.int .i64 0, .int .u64 0] 34)
              have e6 : Below B w (w5.alloc (.cells #[.int .i64 0, .int .u64 0] 34)) := (e2.trans (hb5.mono h2.size)).alloc (h2.keep hb5).size _
              clear ka h2 hR2 hz2 e2 hb5 x0 x1 x2 x3
              generalize w5.alloc (.cells #[.int .i64 0, .int .u64 0] 34) = w6 at h6 hR6 hz6 e6 hzn ⊢
              generalize w5.heap.size = zn at hzn ⊢
              have x0 := (cell_of hz6 0).trans (show _ = some (Value.bool xd) from rfl)
              have x1 := (cell_of hz6 1).trans (show _ = some (Value.int .i64 xi) from rfl)
              have x2 := (cell_of hz6 2).trans (show _ = some (Value.int .i64 xs) from rfl)
              have x3 := (cell_of hz6 3).trans (show _ = some (Value.int .u64 (xg : Int)) from rfl)
              have c0 : w6.cell? ⟨r, 0, none⟩ = some (.slice px K2.length cx) := by rw [cell_of hR6.cells]; rfl
              go_quiet (fail)
              replace h6 := h6.drewN nq
              replace hR6 : Rl (w6.drewN nq) B r K2 _ := hR6.below (Below.drewN (Below.refl _ _) nq)
              replace hz6 : (w6.drewN nq).heap[z]? = _ := hz6
              replace hzn : (w6.drewN nq).heap[zn]? = _ := hzn
              replace e6 := Below.drewN e6 nq
              clear x0 x1 x2 x3 c0
              generalize w6.drewN nq = w7 at h6 hR6 hz6 e6 hzn ⊢
              have x0 := (cell_of hz6 0).trans (show _ = some (Value.bool xd) from rfl)
              have x1 := (cell_of hz6 1).trans (show _ = some (Value.int .i64 xi) from rfl)
              have x2 := (cell_of hz6 2).trans (show _ = some (Value.int .i64 xs) from rfl)
              have x3 := (cell_of hz6 3).trans (show _ = some (Value.int .u64 (xg : Int)) from rfl)
              obtain ⟨j, hj, ha, hi2, hce⟩ := in_at h6.nd hkin
              clear hce
              have ki := idx_tk w7 B b K2 h6 (xs, xg)
              rw [hi2, decide_eq_true hkin] at ki
              simp only at ki
              replace hkin : Hid _ := hkin
              go_upto_region 21 with (go_at_call 16; go_loud (refine ki.mono ?_; rintro e w8 ⟨rfl, hb8⟩))
              replace h6 := h6.keep hb8
              replace hR6 := hR6.below hb8
              replace hz6 := (hb8.block _ (heap_lt hz6)).trans hz6
              replace hzn := (hb8.block _ (heap_lt hzn)).trans hzn
              replace e6 := e6.trans (hb8.mono (by have := e6.size; omega))
              clear ki hb8 x0 x1 x2 x3
              have x0 := fun p : BlBy w8 => (p.bl.cell (p := ⟨z, 0, none⟩) (heap_lt hz6)).trans (by rw [cell_of hz6]; rfl : w8.cell? ⟨z, 0, none⟩ = some (Value.bool xd))
              have x1 := fun p : BlBy w8 => (p.bl.cell (p := ⟨z, 1, none⟩) (heap_lt hz6)).trans (by rw [cell_of hz6]; rfl : w8.cell? ⟨z, 1, none⟩ = some (Value.int .i64 xi))
              have x2 := fun p : BlBy w8 => (p.bl.cell (p := ⟨z, 2, none⟩) (heap_lt hz6)).trans (by rw [cell_of hz6]; rfl : w8.cell? ⟨z, 2, none⟩ = some (Value.int .i64 xs))
              have x3 := fun p : BlBy w8 => (p.bl.cell (p := ⟨z, 3, none⟩) (heap_lt hz6)).trans (by rw [cell_of hz6]; rfl : w8.cell? ⟨z, 3, none⟩ = some (Value.int .u64 (xg : Int)))
              have kA := fun p : BlBy w8 => rat_at (hR6.below p.bl) h6.nd (xs, xg)
              rw [ha] at kA
              simp only at kA
              try dsimp only [List.append]
              try simp only [List.append_eq, List.cons_append, List.nil_append]
              have hne : Nonempty (BlBy w8) := ⟨⟨w8, Below.refl _ w8⟩⟩
              refine wp_region_bl (by kernel_rfl) (by kernel_rfl) ?_
              repeat (first
                | go_big_quiet_skip
                | (go_big_quiet_want; go_big_quiet_op; first
                  | go_big_quiet_on
                  | (apply Exists.intro
                     refine ⟨fun p => ?_, ?_⟩
                     · first
                         | (go_at_call 10; exact calls_bl (kA p))
                     go_big_quiet_on)))
              refine wpQuiet_nil ?_
              intro wq hw'
              obtain ⟨⟨wq2, hq⟩, e⟩ := hw'
              simp only at e
              subst e
              replace h6 := h6.keep hq
              replace hR6 := hR6.below hq
              replace hz6 := (hq.block _ (heap_lt hz6)).trans hz6
              replace hzn := (hq.block _ (heap_lt hzn)).trans hzn
              replace e6 := e6.trans (hq.mono (by have := e6.size; omega))
              clear kA hq x0 x1 x2 x3 hne
              go_upto_region 22 with fail
              have x0 := fun p : BlBy wq => (p.bl.cell (p := ⟨z, 0, none⟩) (heap_lt hz6)).trans (by rw [cell_of hz6]; rfl : wq.cell? ⟨z, 0, none⟩ = some (Value.bool xd))
              have x1 := fun p : BlBy wq => (p.bl.cell (p := ⟨z, 1, none⟩) (heap_lt hz6)).trans (by rw [cell_of hz6]; rfl : wq.cell? ⟨z, 1, none⟩ = some (Value.int .i64 xi))
              have x2 := fun p : BlBy wq => (p.bl.cell (p := ⟨z, 2, none⟩) (heap_lt hz6)).trans (by rw [cell_of hz6]; rfl : wq.cell? ⟨z, 2, none⟩ = some (Value.int .i64 xs))
              have x3 := fun p : BlBy wq => (p.bl.cell (p := ⟨z, 3, none⟩) (heap_lt hz6)).trans (by rw [cell_of hz6]; rfl : wq.cell? ⟨z, 3, none⟩ = some (Value.int .u64 (xg : Int)))
              have n0 := fun p : BlBy wq => (p.bl.cell (p := ⟨zn, 0, none⟩) (heap_lt hzn)).trans (by rw [cell_of hzn]; rfl : wq.cell? ⟨zn, 0, none⟩ = some (.int .i64 0))
              have n1 := fun p : BlBy wq => (p.bl.cell (p := ⟨zn, 1, none⟩) (heap_lt hzn)).trans (by rw [cell_of hzn]; rfl : wq.cell? ⟨zn, 1, none⟩ = some (.int .u64 0))
              have kK := fun p : BlBy wq => alike_any p.wo B b r K2 _ (h6.keep p.bl) (hR6.below p.bl)
              have nq2 := fun W => neqH 0 0 0 0 W
              simp only [beq_self_eq_true, Bool.and_self, Bool.not_true] at nq2
              have g0 : decide ((0 : Int) ≤ (j : Int)) = true := by simp
              have g1' : decide ((j : Int) ≥ (0 : Int)) = true := by simp
              have g2 : ((j : Int) == (j : Int)) = true := by simp
              replace hj : Hid _ := hj
              try dsimp only [List.append]
              try simp only [List.append_eq, List.cons_append, List.nil_append]
              have hne : Nonempty (BlBy wq) := ⟨⟨wq, Below.refl _ wq⟩⟩
              refine wp_region_bl (by kernel_rfl) (by kernel_rfl) ?_
              repeat (first
                | go_big_quiet_skip
                | (go_big_quiet_want; go_big_quiet_op; first
                  | go_big_quiet_on
                  | (apply Exists.intro
                     refine ⟨fun p => ?_, ?_⟩
                     · first
                         | (go_at_call 17; exact calls_bl (kK p))
                     go_big_quiet_on)))
              refine wpQuiet_nil ?_
              intro wz hw'
              obtain ⟨⟨wq2, hq⟩, e⟩ := hw'
              simp only at e
              subst e
              go_wp2
              exact ⟨⟨i + 1, K2, _, by simp, by omega, h6.keep hq, hR6.below hq, by omega, e6.trans (hq.mono (by have := e6.size; omega))⟩, by simp [valOf]; omega⟩
          · as_aux_lemma =>
              obtain ⟨px, cx, rfl⟩ := own_shape hR2.row
              have ka := at_tk w2 B b K2 h2 xi
              rw [hno] at ka
              replace ka : Calls Try.prog 15 #[.pointer (some ⟨b, 0, none⟩), .int .i64 xi] w2 fun e w' => e = .returned (.tuple #[.agg #[.int .i64 0, .int .u64 0], .bool false]) ∧ Below w2.heap.size w2 w' := ka
              go_upto_region 19 with (go_at_call 15; go_loud (refine ka.mono ?_; rintro e w5 ⟨rfl, hb5⟩))
              have hzn := heap_alloc_new w5 (.cells #[.int .i64 0, .int .u64 0] 34)
              have h6 := (h2.keep hb5).alloc (.cells #[.int .i64 0, .int .u64 0] 34)
              have hR6 := (hR2.below hb5).alloc (.cells #[.int .i64 0, .int .u64 0] 34)
              have hz6 := heap_al ((hb5.block _ (heap_lt hz2)).trans hz2) (.cells #[.int .i64 0, .int .u64 0] 34)
              have e6 : Below B w (w5.alloc (.cells #[.int .i64 0, .int .u64 0] 34)) := (e2.trans (hb5.mono h2.size)).alloc (h2.keep hb5).size _
              clear ka h2 hR2 hz2 e2 hb5 x0 x1 x2 x3
              generalize w5.alloc (.cells #[.int .i64 0, .int .u64 0] 34) = w6 at h6 hR6 hz6 e6 hzn ⊢
              generalize w5.heap.size = zn at hzn ⊢
              have x0 := (cell_of hz6 0).trans (show _ = some (Value.bool xd) from rfl)
              have x1 := (cell_of hz6 1).trans (show _ = some (Value.int .i64 xi) from rfl)
              have x2 := (cell_of hz6 2).trans (show _ = some (Value.int .i64 xs) from rfl)
              have x3 := (cell_of hz6 3).trans (show _ = some (Value.int .u64 (xg : Int)) from rfl)
              have c0 : w6.cell? ⟨r, 0, none⟩ = some (.slice px K2.length cx) := by rw [cell_of hR6.cells]; rfl
              go_quiet (fail)
              replace h6 := h6.drewN nq
              replace hR6 : Rl (w6.drewN nq) B r K2 _ := hR6.below (Below.drewN (Below.refl _ _) nq)
              replace hz6 : (w6.drewN nq).heap[z]? = _ := hz6
              replace hzn : (w6.drewN nq).heap[zn]? = _ := hzn
              replace e6 := Below.drewN e6 nq
              clear x0 x1 x2 x3 c0
              generalize w6.drewN nq = w7 at h6 hR6 hz6 e6 hzn ⊢
              have x0 := (cell_of hz6 0).trans (show _ = some (Value.bool xd) from rfl)
              have x1 := (cell_of hz6 1).trans (show _ = some (Value.int .i64 xi) from rfl)
              have x2 := (cell_of hz6 2).trans (show _ = some (Value.int .i64 xs) from rfl)
              have x3 := (cell_of hz6 3).trans (show _ = some (Value.int .u64 (xg : Int)) from rfl)
              obtain ⟨ha, hi2, -⟩ := out_at hkin
              have ki := idx_tk w7 B b K2 h6 (xs, xg)
              rw [hi2, decide_eq_false hkin] at ki
              simp only at ki
              replace hkin : Hid _ := hkin
              go_upto_region 21 with (go_at_call 16; go_loud (refine ki.mono ?_; rintro e w8 ⟨rfl, hb8⟩))
              replace h6 := h6.keep hb8
              replace hR6 := hR6.below hb8
              replace hz6 := (hb8.block _ (heap_lt hz6)).trans hz6
              replace hzn := (hb8.block _ (heap_lt hzn)).trans hzn
              replace e6 := e6.trans (hb8.mono (by have := e6.size; omega))
              clear ki hb8 x0 x1 x2 x3
              have x0 := fun p : BlBy w8 => (p.bl.cell (p := ⟨z, 0, none⟩) (heap_lt hz6)).trans (by rw [cell_of hz6]; rfl : w8.cell? ⟨z, 0, none⟩ = some (Value.bool xd))
              have x1 := fun p : BlBy w8 => (p.bl.cell (p := ⟨z, 1, none⟩) (heap_lt hz6)).trans (by rw [cell_of hz6]; rfl : w8.cell? ⟨z, 1, none⟩ = some (Value.int .i64 xi))
              have x2 := fun p : BlBy w8 => (p.bl.cell (p := ⟨z, 2, none⟩) (heap_lt hz6)).trans (by rw [cell_of hz6]; rfl : w8.cell? ⟨z, 2, none⟩ = some (Value.int .i64 xs))
              have x3 := fun p : BlBy w8 => (p.bl.cell (p := ⟨z, 3, none⟩) (heap_lt hz6)).trans (by rw [cell_of hz6]; rfl : w8.cell? ⟨z, 3, none⟩ = some (Value.int .u64 (xg : Int)))
              have kA := fun p : BlBy w8 => rat_at (hR6.below p.bl) h6.nd (xs, xg)
              rw [ha] at kA
              simp only at kA
              try dsimp only [List.append]
              try simp only [List.append_eq, List.cons_append, List.nil_append]
              have hne : Nonempty (BlBy w8) := ⟨⟨w8, Below.refl _ w8⟩⟩
              refine wp_region_bl (by kernel_rfl) (by kernel_rfl) ?_
              repeat (first
                | go_big_quiet_skip
                | (go_big_quiet_want; go_big_quiet_op; first
                  | go_big_quiet_on
                  | (apply Exists.intro
                     refine ⟨fun p => ?_, ?_⟩
                     · first
                         | (go_at_call 10; exact calls_bl (kA p))
                     go_big_quiet_on)))
              refine wpQuiet_nil ?_
              intro wq hw'
              obtain ⟨⟨wq2, hq⟩, e⟩ := hw'
              simp only at e
              subst e
              replace h6 := h6.keep hq
              replace hR6 := hR6.below hq
              replace hz6 := (hq.block _ (heap_lt hz6)).trans hz6
              replace hzn := (hq.block _ (heap_lt hzn)).trans hzn
              replace e6 := e6.trans (hq.mono (by have := e6.size; omega))
              clear kA hq x0 x1 x2 x3 hne
              go_upto_region 22 with fail
              have x0 := fun p : BlBy wq => (p.bl.cell (p := ⟨z, 0, none⟩) (heap_lt hz6)).trans (by rw [cell_of hz6]; rfl : wq.cell? ⟨z, 0, none⟩ = some (Value.bool xd))
              have x1 := fun p : BlBy wq => (p.bl.cell (p := ⟨z, 1, none⟩) (heap_lt hz6)).trans (by rw [cell_of hz6]; rfl : wq.cell? ⟨z, 1, none⟩ = some (Value.int .i64 xi))
              have x2 := fun p : BlBy wq => (p.bl.cell (p := ⟨z, 2, none⟩) (heap_lt hz6)).trans (by rw [cell_of hz6]; rfl : wq.cell? ⟨z, 2, none⟩ = some (Value.int .i64 xs))
              have x3 := fun p : BlBy wq => (p.bl.cell (p := ⟨z, 3, none⟩) (heap_lt hz6)).trans (by rw [cell_of hz6]; rfl : wq.cell? ⟨z, 3, none⟩ = some (Value.int .u64 (xg : Int)))
              have n0 := fun p : BlBy wq => (p.bl.cell (p := ⟨zn, 0, none⟩) (heap_lt hzn)).trans (by rw [cell_of hzn]; rfl : wq.cell? ⟨zn, 0, none⟩ = some (.int .i64 0))
              have n1 := fun p : BlBy wq => (p.bl.cell (p := ⟨zn, 1, none⟩) (heap_lt hzn)).trans (by rw [cell_of hzn]; rfl : wq.cell? ⟨zn, 1, none⟩ = some (.int .u64 0))
              have kK := fun p : BlBy wq => alike_any p.wo B b r K2 _ (h6.keep p.bl) (hR6.below p.bl)
              have nq2 := fun W => neqH 0 0 0 0 W
              simp only [beq_self_eq_true, Bool.and_self, Bool.not_true] at nq2
              try dsimp only [List.append]
              try simp only [List.append_eq, List.cons_append, List.nil_append]
              have hne : Nonempty (BlBy wq) := ⟨⟨wq, Below.refl _ wq⟩⟩
              refine wp_region_bl (by kernel_rfl) (by kernel_rfl) ?_
              repeat (first
                | go_big_quiet_skip
                | (go_big_quiet_want; go_big_quiet_op; first
                  | go_big_quiet_on
                  | (apply Exists.intro
                     refine ⟨fun p => ?_, ?_⟩
                     · first
                         | (go_at_call 17; exact calls_bl (kK p))
                     go_big_quiet_on)))
              refine wpQuiet_nil ?_
              intro wz hw'
              obtain ⟨⟨wq2, hq⟩, e⟩ := hw'
              simp only at e
              subst e
              go_wp2
              exact ⟨⟨i + 1, K2, _, by simp, by omega, h6.keep hq, hR6.below hq, by omega, e6.trans (hq.mono (by have := e6.size; omega))⟩, by simp [valOf]; omega⟩
        · have g5 : decide ((0 : Int) ≤ xi) = true := decide_eq_true (by omega)
          have g6 : decide (xi ≥ (0 : Int)) = true := g5
          by_cases hbig : xi < (K2.length : Int)
          · have g7 : decide (xi < (K2.length : Int)) = true := decide_eq_true hbig
            obtain ⟨j0, rfl⟩ : ∃ j0 : Nat, xi = (j0 : Int) := ⟨xi.toNat, by omega⟩
            obtain ⟨k0, hk0⟩ : ∃ k0, K2[j0]? = some k0 := ⟨K2[j0]'(by omega), List.getElem?_eq_getElem (by omega)⟩
            by_cases hkin : ((xs, xg) : HKey) ∈ K2
            · as_aux_lemma =>
                obtain ⟨px, cx, rfl⟩ := own_shape hR2.row
                have ka := at_yes h2 j0 k0 hk0
                go_upto_region 19 with (go_at_call 15; go_loud (refine ka.mono ?_; rintro e w5 ⟨rfl, hb5⟩))
                have hzn := heap_alloc_new w5 (.cells #[.int .i64 k0.1, .int .u64 k0.2] 34)
                have h6 := (h2.keep hb5).alloc (.cells #[.int .i64 k0.1, .int .u64 k0.2] 34)
                have hR6 := (hR2.below hb5).alloc (.cells #[.int .i64 k0.1, .int .u64 k0.2] 34)
                have hz6 := heap_al ((hb5.block _ (heap_lt hz2)).trans hz2) (.cells #[.int .i64 k0.1, .int .u64 k0.2] 34)
                have e6 : Below B w (w5.alloc (.cells #[.int .i64 k0.1, .int .u64 k0.2] 34)) := (e2.trans (hb5.mono h2.size)).alloc (h2.keep hb5).size _
                clear ka h2 hR2 hz2 e2 hb5 x0 x1 x2 x3
                generalize w5.alloc (.cells #[.int .i64 k0.1, .int .u64 k0.2] 34) = w6 at h6 hR6 hz6 e6 hzn ⊢
                generalize w5.heap.size = zn at hzn ⊢
                have x0 := (cell_of hz6 0).trans (show _ = some (Value.bool xd) from rfl)
                have x1 := (cell_of hz6 1).trans (show _ = some (Value.int .i64 (j0 : Int)) from rfl)
                have x2 := (cell_of hz6 2).trans (show _ = some (Value.int .i64 xs) from rfl)
                have x3 := (cell_of hz6 3).trans (show _ = some (Value.int .u64 (xg : Int)) from rfl)
                have c0 : w6.cell? ⟨r, 0, none⟩ = some (.slice px K2.length cx) := by rw [cell_of hR6.cells]; rfl
                go_quiet (fail)
                replace h6 := h6.drewN nq
                replace hR6 : Rl (w6.drewN nq) B r K2 _ := hR6.below (Below.drewN (Below.refl _ _) nq)
                replace hz6 : (w6.drewN nq).heap[z]? = _ := hz6
                replace hzn : (w6.drewN nq).heap[zn]? = _ := hzn
                replace e6 := Below.drewN e6 nq
                clear x0 x1 x2 x3 c0
                generalize w6.drewN nq = w7 at h6 hR6 hz6 e6 hzn ⊢
                have x0 := (cell_of hz6 0).trans (show _ = some (Value.bool xd) from rfl)
                have x1 := (cell_of hz6 1).trans (show _ = some (Value.int .i64 (j0 : Int)) from rfl)
                have x2 := (cell_of hz6 2).trans (show _ = some (Value.int .i64 xs) from rfl)
                have x3 := (cell_of hz6 3).trans (show _ = some (Value.int .u64 (xg : Int)) from rfl)
                obtain ⟨j, hj, ha, hi2, hce⟩ := in_at h6.nd hkin
                clear hce
                have ki := idx_tk w7 B b K2 h6 (xs, xg)
                rw [hi2, decide_eq_true hkin] at ki
                simp only at ki
                replace hkin : Hid _ := hkin
                go_upto_region 21 with (go_at_call 16; go_loud (refine ki.mono ?_; rintro e w8 ⟨rfl, hb8⟩))
                replace h6 := h6.keep hb8
                replace hR6 := hR6.below hb8
                replace hz6 := (hb8.block _ (heap_lt hz6)).trans hz6
                replace hzn := (hb8.block _ (heap_lt hzn)).trans hzn
                replace e6 := e6.trans (hb8.mono (by have := e6.size; omega))
                clear ki hb8 x0 x1 x2 x3
                have x0 := fun p : BlBy w8 => (p.bl.cell (p := ⟨z, 0, none⟩) (heap_lt hz6)).trans (by rw [cell_of hz6]; rfl : w8.cell? ⟨z, 0, none⟩ = some (Value.bool xd))
                have x1 := fun p : BlBy w8 => (p.bl.cell (p := ⟨z, 1, none⟩) (heap_lt hz6)).trans (by rw [cell_of hz6]; rfl : w8.cell? ⟨z, 1, none⟩ = some (Value.int .i64 (j0 : Int)))
                have x2 := fun p : BlBy w8 => (p.bl.cell (p := ⟨z, 2, none⟩) (heap_lt hz6)).trans (by rw [cell_of hz6]; rfl : w8.cell? ⟨z, 2, none⟩ = some (Value.int .i64 xs))
                have x3 := fun p : BlBy w8 => (p.bl.cell (p := ⟨z, 3, none⟩) (heap_lt hz6)).trans (by rw [cell_of hz6]; rfl : w8.cell? ⟨z, 3, none⟩ = some (Value.int .u64 (xg : Int)))
                have kA := fun p : BlBy w8 => rat_at (hR6.below p.bl) h6.nd (xs, xg)
                rw [ha] at kA
                simp only at kA
                try dsimp only [List.append]
                try simp only [List.append_eq, List.cons_append, List.nil_append]
                have hne : Nonempty (BlBy w8) := ⟨⟨w8, Below.refl _ w8⟩⟩
                refine wp_region_bl (by kernel_rfl) (by kernel_rfl) ?_
                repeat (first
                  | go_big_quiet_skip
                  | (go_big_quiet_want; go_big_quiet_op; first
                    | go_big_quiet_on
                    | (apply Exists.intro
                       refine ⟨fun p => ?_, ?_⟩
                       · first
                           | (go_at_call 10; exact calls_bl (kA p))
                       go_big_quiet_on)))
                refine wpQuiet_nil ?_
                intro wq hw'
                obtain ⟨⟨wq2, hq⟩, e⟩ := hw'
                simp only at e
                subst e
                replace h6 := h6.keep hq
                replace hR6 := hR6.below hq
                replace hz6 := (hq.block _ (heap_lt hz6)).trans hz6
                replace hzn := (hq.block _ (heap_lt hzn)).trans hzn
                replace e6 := e6.trans (hq.mono (by have := e6.size; omega))
                clear kA hq x0 x1 x2 x3 hne
                go_upto_region 22 with fail
                have x0 := fun p : BlBy wq => (p.bl.cell (p := ⟨z, 0, none⟩) (heap_lt hz6)).trans (by rw [cell_of hz6]; rfl : wq.cell? ⟨z, 0, none⟩ = some (Value.bool xd))
                have x1 := fun p : BlBy wq => (p.bl.cell (p := ⟨z, 1, none⟩) (heap_lt hz6)).trans (by rw [cell_of hz6]; rfl : wq.cell? ⟨z, 1, none⟩ = some (Value.int .i64 (j0 : Int)))
                have x2 := fun p : BlBy wq => (p.bl.cell (p := ⟨z, 2, none⟩) (heap_lt hz6)).trans (by rw [cell_of hz6]; rfl : wq.cell? ⟨z, 2, none⟩ = some (Value.int .i64 xs))
                have x3 := fun p : BlBy wq => (p.bl.cell (p := ⟨z, 3, none⟩) (heap_lt hz6)).trans (by rw [cell_of hz6]; rfl : wq.cell? ⟨z, 3, none⟩ = some (Value.int .u64 (xg : Int)))
                have n0 := fun p : BlBy wq => (p.bl.cell (p := ⟨zn, 0, none⟩) (heap_lt hzn)).trans (by rw [cell_of hzn]; rfl : wq.cell? ⟨zn, 0, none⟩ = some (.int .i64 k0.1))
                have n1 := fun p : BlBy wq => (p.bl.cell (p := ⟨zn, 1, none⟩) (heap_lt hzn)).trans (by rw [cell_of hzn]; rfl : wq.cell? ⟨zn, 1, none⟩ = some (.int .u64 (k0.2 : Int)))
                have kK := fun p : BlBy wq => alike_any p.wo B b r K2 _ (h6.keep p.bl) (hR6.below p.bl)
                have nq2 := fun W => neqH k0.1 k0.1 (k0.2 : Int) (k0.2 : Int) W
                simp only [beq_self_eq_true, Bool.and_self, Bool.not_true] at nq2
                have c0 := fun p : BlBy wq => (p.bl.cell (p := ⟨r, 0, none⟩) (heap_lt hR6.cells)).trans (by rw [cell_of hR6.cells]; rfl : wq.cell? ⟨r, 0, none⟩ = some (.slice px K2.length cx))
                have hj0 := (List.getElem?_eq_some_iff.1 hk0).1
                obtain ⟨g1, y1, hy1, hgl1, -, c10, c11, ha1⟩ := idx34 hR6.row (j := j0) hj0 (by omega)
                rw [hk0] at hy1
                obtain rfl := Option.some.inj hy1
                have d10 := fun p : BlBy wq => (p.bl.cell (p := ⟨g1, j0 * 2, none⟩) hgl1).trans c10
                have d11 := fun p : BlBy wq => (p.bl.cell (p := ⟨g1, j0 * 2 + 1, none⟩) hgl1).trans c11
                replace hk0 : Hid _ := hk0
                replace hj0 : Hid _ := hj0
                have g0 : decide ((0 : Int) ≤ (j : Int)) = true := by simp
                have g1' : decide ((j : Int) ≥ (0 : Int)) = true := by simp
                have g2 : ((j : Int) == (j : Int)) = true := by simp
                replace hj : Hid _ := hj
                try dsimp only [List.append]
                try simp only [List.append_eq, List.cons_append, List.nil_append]
                have hne : Nonempty (BlBy wq) := ⟨⟨wq, Below.refl _ wq⟩⟩
                refine wp_region_bl (by kernel_rfl) (by kernel_rfl) ?_
                repeat (first
                  | go_big_quiet_skip
                  | (go_big_quiet_want; go_big_quiet_op; first
                    | go_big_quiet_on
                    | (apply Exists.intro
                       refine ⟨fun p => ?_, ?_⟩
                       · first
                           | (go_at_call 17; exact calls_bl (kK p))
                       go_big_quiet_on)))
                refine wpQuiet_nil ?_
                intro wz hw'
                obtain ⟨⟨wq2, hq⟩, e⟩ := hw'
                simp only at e
                subst e
                go_wp2
                exact ⟨⟨i + 1, K2, _, by simp, by omega, h6.keep hq, hR6.below hq, by omega, e6.trans (hq.mono (by have := e6.size; omega))⟩, by simp [valOf]; omega⟩
            · as_aux_lemma =>
                obtain ⟨px, cx, rfl⟩ := own_shape hR2.row
                have ka := at_yes h2 j0 k0 hk0
                go_upto_region 19 with (go_at_call 15; go_loud (refine ka.mono ?_; rintro e w5 ⟨rfl, hb5⟩))
                have hzn := heap_alloc_new w5 (.cells #[.int .i64 k0.1, .int .u64 k0.2] 34)
                have h6 := (h2.keep hb5).alloc (.cells #[.int .i64 k0.1, .int .u64 k0.2] 34)
                have hR6 := (hR2.below hb5).alloc (.cells #[.int .i64 k0.1, .int .u64 k0.2] 34)
                have hz6 := heap_al ((hb5.block _ (heap_lt hz2)).trans hz2) (.cells #[.int .i64 k0.1, .int .u64 k0.2] 34)
                have e6 : Below B w (w5.alloc (.cells #[.int .i64 k0.1, .int .u64 k0.2] 34)) := (e2.trans (hb5.mono h2.size)).alloc (h2.keep hb5).size _
                clear ka h2 hR2 hz2 e2 hb5 x0 x1 x2 x3
                generalize w5.alloc (.cells #[.int .i64 k0.1, .int .u64 k0.2] 34) = w6 at h6 hR6 hz6 e6 hzn ⊢
                generalize w5.heap.size = zn at hzn ⊢
                have x0 := (cell_of hz6 0).trans (show _ = some (Value.bool xd) from rfl)
                have x1 := (cell_of hz6 1).trans (show _ = some (Value.int .i64 (j0 : Int)) from rfl)
                have x2 := (cell_of hz6 2).trans (show _ = some (Value.int .i64 xs) from rfl)
                have x3 := (cell_of hz6 3).trans (show _ = some (Value.int .u64 (xg : Int)) from rfl)
                have c0 : w6.cell? ⟨r, 0, none⟩ = some (.slice px K2.length cx) := by rw [cell_of hR6.cells]; rfl
                go_quiet (fail)
                replace h6 := h6.drewN nq
                replace hR6 : Rl (w6.drewN nq) B r K2 _ := hR6.below (Below.drewN (Below.refl _ _) nq)
                replace hz6 : (w6.drewN nq).heap[z]? = _ := hz6
                replace hzn : (w6.drewN nq).heap[zn]? = _ := hzn
                replace e6 := Below.drewN e6 nq
                clear x0 x1 x2 x3 c0
                generalize w6.drewN nq = w7 at h6 hR6 hz6 e6 hzn ⊢
                have x0 := (cell_of hz6 0).trans (show _ = some (Value.bool xd) from rfl)
                have x1 := (cell_of hz6 1).trans (show _ = some (Value.int .i64 (j0 : Int)) from rfl)
                have x2 := (cell_of hz6 2).trans (show _ = some (Value.int .i64 xs) from rfl)
                have x3 := (cell_of hz6 3).trans (show _ = some (Value.int .u64 (xg : Int)) from rfl)
                obtain ⟨ha, hi2, -⟩ := out_at hkin
                have ki := idx_tk w7 B b K2 h6 (xs, xg)
                rw [hi2, decide_eq_false hkin] at ki
                simp only at ki
                replace hkin : Hid _ := hkin
                go_upto_region 21 with (go_at_call 16; go_loud (refine ki.mono ?_; rintro e w8 ⟨rfl, hb8⟩))
                replace h6 := h6.keep hb8
                replace hR6 := hR6.below hb8
                replace hz6 := (hb8.block _ (heap_lt hz6)).trans hz6
                replace hzn := (hb8.block _ (heap_lt hzn)).trans hzn
                replace e6 := e6.trans (hb8.mono (by have := e6.size; omega))
                clear ki hb8 x0 x1 x2 x3
                have x0 := fun p : BlBy w8 => (p.bl.cell (p := ⟨z, 0, none⟩) (heap_lt hz6)).trans (by rw [cell_of hz6]; rfl : w8.cell? ⟨z, 0, none⟩ = some (Value.bool xd))
                have x1 := fun p : BlBy w8 => (p.bl.cell (p := ⟨z, 1, none⟩) (heap_lt hz6)).trans (by rw [cell_of hz6]; rfl : w8.cell? ⟨z, 1, none⟩ = some (Value.int .i64 (j0 : Int)))
                have x2 := fun p : BlBy w8 => (p.bl.cell (p := ⟨z, 2, none⟩) (heap_lt hz6)).trans (by rw [cell_of hz6]; rfl : w8.cell? ⟨z, 2, none⟩ = some (Value.int .i64 xs))
                have x3 := fun p : BlBy w8 => (p.bl.cell (p := ⟨z, 3, none⟩) (heap_lt hz6)).trans (by rw [cell_of hz6]; rfl : w8.cell? ⟨z, 3, none⟩ = some (Value.int .u64 (xg : Int)))
                have kA := fun p : BlBy w8 => rat_at (hR6.below p.bl) h6.nd (xs, xg)
                rw [ha] at kA
                simp only at kA
                try dsimp only [List.append]
                try simp only [List.append_eq, List.cons_append, List.nil_append]
                have hne : Nonempty (BlBy w8) := ⟨⟨w8, Below.refl _ w8⟩⟩
                refine wp_region_bl (by kernel_rfl) (by kernel_rfl) ?_
                repeat (first
                  | go_big_quiet_skip
                  | (go_big_quiet_want; go_big_quiet_op; first
                    | go_big_quiet_on
                    | (apply Exists.intro
                       refine ⟨fun p => ?_, ?_⟩
                       · first
                           | (go_at_call 10; exact calls_bl (kA p))
                       go_big_quiet_on)))
                refine wpQuiet_nil ?_
                intro wq hw'
                obtain ⟨⟨wq2, hq⟩, e⟩ := hw'
                simp only at e
                subst e
                replace h6 := h6.keep hq
                replace hR6 := hR6.below hq
                replace hz6 := (hq.block _ (heap_lt hz6)).trans hz6
                replace hzn := (hq.block _ (heap_lt hzn)).trans hzn
                replace e6 := e6.trans (hq.mono (by have := e6.size; omega))
                clear kA hq x0 x1 x2 x3 hne
                go_upto_region 22 with fail
                have x0 := fun p : BlBy wq => (p.bl.cell (p := ⟨z, 0, none⟩) (heap_lt hz6)).trans (by rw [cell_of hz6]; rfl : wq.cell? ⟨z, 0, none⟩ = some (Value.bool xd))
                have x1 := fun p : BlBy wq => (p.bl.cell (p := ⟨z, 1, none⟩) (heap_lt hz6)).trans (by rw [cell_of hz6]; rfl : wq.cell? ⟨z, 1, none⟩ = some (Value.int .i64 (j0 : Int)))
                have x2 := fun p : BlBy wq => (p.bl.cell (p := ⟨z, 2, none⟩) (heap_lt hz6)).trans (by rw [cell_of hz6]; rfl : wq.cell? ⟨z, 2, none⟩ = some (Value.int .i64 xs))
                have x3 := fun p : BlBy wq => (p.bl.cell (p := ⟨z, 3, none⟩) (heap_lt hz6)).trans (by rw [cell_of hz6]; rfl : wq.cell? ⟨z, 3, none⟩ = some (Value.int .u64 (xg : Int)))
                have n0 := fun p : BlBy wq => (p.bl.cell (p := ⟨zn, 0, none⟩) (heap_lt hzn)).trans (by rw [cell_of hzn]; rfl : wq.cell? ⟨zn, 0, none⟩ = some (.int .i64 k0.1))
                have n1 := fun p : BlBy wq => (p.bl.cell (p := ⟨zn, 1, none⟩) (heap_lt hzn)).trans (by rw [cell_of hzn]; rfl : wq.cell? ⟨zn, 1, none⟩ = some (.int .u64 (k0.2 : Int)))
                have kK := fun p : BlBy wq => alike_any p.wo B b r K2 _ (h6.keep p.bl) (hR6.below p.bl)
                have nq2 := fun W => neqH k0.1 k0.1 (k0.2 : Int) (k0.2 : Int) W
                simp only [beq_self_eq_true, Bool.and_self, Bool.not_true] at nq2
                have c0 := fun p : BlBy wq => (p.bl.cell (p := ⟨r, 0, none⟩) (heap_lt hR6.cells)).trans (by rw [cell_of hR6.cells]; rfl : wq.cell? ⟨r, 0, none⟩ = some (.slice px K2.length cx))
                have hj0 := (List.getElem?_eq_some_iff.1 hk0).1
                obtain ⟨g1, y1, hy1, hgl1, -, c10, c11, ha1⟩ := idx34 hR6.row (j := j0) hj0 (by omega)
                rw [hk0] at hy1
                obtain rfl := Option.some.inj hy1
                have d10 := fun p : BlBy wq => (p.bl.cell (p := ⟨g1, j0 * 2, none⟩) hgl1).trans c10
                have d11 := fun p : BlBy wq => (p.bl.cell (p := ⟨g1, j0 * 2 + 1, none⟩) hgl1).trans c11
                replace hk0 : Hid _ := hk0
                replace hj0 : Hid _ := hj0
                try dsimp only [List.append]
                try simp only [List.append_eq, List.cons_append, List.nil_append]
                have hne : Nonempty (BlBy wq) := ⟨⟨wq, Below.refl _ wq⟩⟩
                refine wp_region_bl (by kernel_rfl) (by kernel_rfl) ?_
                repeat (first
                  | go_big_quiet_skip
                  | (go_big_quiet_want; go_big_quiet_op; first
                    | go_big_quiet_on
                    | (apply Exists.intro
                       refine ⟨fun p => ?_, ?_⟩
                       · first
                           | (go_at_call 17; exact calls_bl (kK p))
                       go_big_quiet_on)))
                refine wpQuiet_nil ?_
                intro wz hw'
                obtain ⟨⟨wq2, hq⟩, e⟩ := hw'
                simp only at e
                subst e
                go_wp2
                exact ⟨⟨i + 1, K2, _, by simp, by omega, h6.keep hq, hR6.below hq, by omega, e6.trans (hq.mono (by have := e6.size; omega))⟩, by simp [valOf]; omega⟩
          · have g7 : decide (xi < (K2.length : Int)) = false := decide_eq_false hbig
            have hno : atM K2 xi = none := by unfold atM; rw [if_neg hneg]; exact List.getElem?_eq_none (by omega)
            by_cases hkin : ((xs, xg) : HKey) ∈ K2
            · as_aux_lemma =>
                obtain ⟨px, cx, rfl⟩ := own_shape hR2.row
                have ka := at_tk w2 B b K2 h2 xi
                rw [hno] at ka
                replace ka : Calls Try.prog 15 #[.pointer (some ⟨b, 0, none⟩), .int .i64 xi] w2 fun e w' => e = .returned (.tuple #[.agg #[.int .i64 0, .int .u64 0], .bool false]) ∧ Below w2.heap.size w2 w' := ka
                go_upto_region 19 with (go_at_call 15; go_loud (refine ka.mono ?_; rintro e w5 ⟨rfl, hb5⟩))
                have hzn := heap_alloc_new w5 (.cells #[.int .i64 0, .int .u64 0] 34)
                have h6 := (h2.keep hb5).alloc (.cells #[.int .i64 0, .int .u64 0] 34)
                have hR6 := (hR2.below hb5).alloc (.cells #[.int .i64 0, .int .u64 0] 34)
                have hz6 := heap_al ((hb5.block _ (heap_lt hz2)).trans hz2) (.cells #[.int .i64 0, .int .u64 0] 34)
                have e6 : Below B w (w5.alloc (.cells #[.int .i64 0, .int .u64 0] 34)) := (e2.trans (hb5.mono h2.size)).alloc (h2.keep hb5).size _
                clear ka h2 hR2 hz2 e2 hb5 x0 x1 x2 x3
                generalize w5.alloc (.cells #[.int .i64 0, .int .u64 0] 34) = w6 at h6 hR6 hz6 e6 hzn ⊢
                generalize w5.heap.size = zn at hzn ⊢
                have x0 := (cell_of hz6 0).trans (show _ = some (Value.bool xd) from rfl)
                have x1 := (cell_of hz6 1).trans (show _ = some (Value.int .i64 xi) from rfl)
                have x2 := (cell_of hz6 2).trans (show _ = some (Value.int .i64 xs) from rfl)
                have x3 := (cell_of hz6 3).trans (show _ = some (Value.int .u64 (xg : Int)) from rfl)
                have c0 : w6.cell? ⟨r, 0, none⟩ = some (.slice px K2.length cx) := by rw [cell_of hR6.cells]; rfl
                go_quiet (fail)
                replace h6 := h6.drewN nq
                replace hR6 : Rl (w6.drewN nq) B r K2 _ := hR6.below (Below.drewN (Below.refl _ _) nq)
                replace hz6 : (w6.drewN nq).heap[z]? = _ := hz6
                replace hzn : (w6.drewN nq).heap[zn]? = _ := hzn
                replace e6 := Below.drewN e6 nq
                clear x0 x1 x2 x3 c0
                generalize w6.drewN nq = w7 at h6 hR6 hz6 e6 hzn ⊢
                have x0 := (cell_of hz6 0).trans (show _ = some (Value.bool xd) from rfl)
                have x1 := (cell_of hz6 1).trans (show _ = some (Value.int .i64 xi) from rfl)
                have x2 := (cell_of hz6 2).trans (show _ = some (Value.int .i64 xs) from rfl)
                have x3 := (cell_of hz6 3).trans (show _ = some (Value.int .u64 (xg : Int)) from rfl)
                obtain ⟨j, hj, ha, hi2, hce⟩ := in_at h6.nd hkin
                clear hce
                have ki := idx_tk w7 B b K2 h6 (xs, xg)
                rw [hi2, decide_eq_true hkin] at ki
                simp only at ki
                replace hkin : Hid _ := hkin
                go_upto_region 21 with (go_at_call 16; go_loud (refine ki.mono ?_; rintro e w8 ⟨rfl, hb8⟩))
                replace h6 := h6.keep hb8
                replace hR6 := hR6.below hb8
                replace hz6 := (hb8.block _ (heap_lt hz6)).trans hz6
                replace hzn := (hb8.block _ (heap_lt hzn)).trans hzn
                replace e6 := e6.trans (hb8.mono (by have := e6.size; omega))
                clear ki hb8 x0 x1 x2 x3
                have x0 := fun p : BlBy w8 => (p.bl.cell (p := ⟨z, 0, none⟩) (heap_lt hz6)).trans (by rw [cell_of hz6]; rfl : w8.cell? ⟨z, 0, none⟩ = some (Value.bool xd))
                have x1 := fun p : BlBy w8 => (p.bl.cell (p := ⟨z, 1, none⟩) (heap_lt hz6)).trans (by rw [cell_of hz6]; rfl : w8.cell? ⟨z, 1, none⟩ = some (Value.int .i64 xi))
                have x2 := fun p : BlBy w8 => (p.bl.cell (p := ⟨z, 2, none⟩) (heap_lt hz6)).trans (by rw [cell_of hz6]; rfl : w8.cell? ⟨z, 2, none⟩ = some (Value.int .i64 xs))
                have x3 := fun p : BlBy w8 => (p.bl.cell (p := ⟨z, 3, none⟩) (heap_lt hz6)).trans (by rw [cell_of hz6]; rfl : w8.cell? ⟨z, 3, none⟩ = some (Value.int .u64 (xg : Int)))
                have kA := fun p : BlBy w8 => rat_at (hR6.below p.bl) h6.nd (xs, xg)
                rw [ha] at kA
                simp only at kA
                try dsimp only [List.append]
                try simp only [List.append_eq, List.cons_append, List.nil_append]
                have hne : Nonempty (BlBy w8) := ⟨⟨w8, Below.refl _ w8⟩⟩
                refine wp_region_bl (by kernel_rfl) (by kernel_rfl) ?_
                repeat (first
                  | go_big_quiet_skip
                  | (go_big_quiet_want; go_big_quiet_op; first
                    | go_big_quiet_on
                    | (apply Exists.intro
                       refine ⟨fun p => ?_, ?_⟩
                       · first
                           | (go_at_call 10; exact calls_bl (kA p))
                       go_big_quiet_on)))
                refine wpQuiet_nil ?_
                intro wq hw'
                obtain ⟨⟨wq2, hq⟩, e⟩ := hw'
                simp only at e
                subst e
                replace h6 := h6.keep hq
                replace hR6 := hR6.below hq
                replace hz6 := (hq.block _ (heap_lt hz6)).trans hz6
                replace hzn := (hq.block _ (heap_lt hzn)).trans hzn
                replace e6 := e6.trans (hq.mono (by have := e6.size; omega))
                clear kA hq x0 x1 x2 x3 hne
                go_upto_region 22 with fail
                have x0 := fun p : BlBy wq => (p.bl.cell (p := ⟨z, 0, none⟩) (heap_lt hz6)).trans (by rw [cell_of hz6]; rfl : wq.cell? ⟨z, 0, none⟩ = some (Value.bool xd))
                have x1 := fun p : BlBy wq => (p.bl.cell (p := ⟨z, 1, none⟩) (heap_lt hz6)).trans (by rw [cell_of hz6]; rfl : wq.cell? ⟨z, 1, none⟩ = some (Value.int .i64 xi))
                have x2 := fun p : BlBy wq => (p.bl.cell (p := ⟨z, 2, none⟩) (heap_lt hz6)).trans (by rw [cell_of hz6]; rfl : wq.cell? ⟨z, 2, none⟩ = some (Value.int .i64 xs))
                have x3 := fun p : BlBy wq => (p.bl.cell (p := ⟨z, 3, none⟩) (heap_lt hz6)).trans (by rw [cell_of hz6]; rfl : wq.cell? ⟨z, 3, none⟩ = some (Value.int .u64 (xg : Int)))
                have n0 := fun p : BlBy wq => (p.bl.cell (p := ⟨zn, 0, none⟩) (heap_lt hzn)).trans (by rw [cell_of hzn]; rfl : wq.cell? ⟨zn, 0, none⟩ = some (.int .i64 0))
                have n1 := fun p : BlBy wq => (p.bl.cell (p := ⟨zn, 1, none⟩) (heap_lt hzn)).trans (by rw [cell_of hzn]; rfl : wq.cell? ⟨zn, 1, none⟩ = some (.int .u64 0))
                have kK := fun p : BlBy wq => alike_any p.wo B b r K2 _ (h6.keep p.bl) (hR6.below p.bl)
                have nq2 := fun W => neqH 0 0 0 0 W
                simp only [beq_self_eq_true, Bool.and_self, Bool.not_true] at nq2
                have g0 : decide ((0 : Int) ≤ (j : Int)) = true := by simp
                have g1' : decide ((j : Int) ≥ (0 : Int)) = true := by simp
                have g2 : ((j : Int) == (j : Int)) = true := by simp
                replace hj : Hid _ := hj
                try dsimp only [List.append]
                try simp only [List.append_eq, List.cons_append, List.nil_append]
                have hne : Nonempty (BlBy wq) := ⟨⟨wq, Below.refl _ wq⟩⟩
                refine wp_region_bl (by kernel_rfl) (by kernel_rfl) ?_
                repeat (first
                  | go_big_quiet_skip
                  | (go_big_quiet_want; go_big_quiet_op; first
                    | go_big_quiet_on
                    | (apply Exists.intro
                       refine ⟨fun p => ?_, ?_⟩
                       · first
                           | (go_at_call 17; exact calls_bl (kK p))
                       go_big_quiet_on)))
                refine wpQuiet_nil ?_
                intro wz hw'
                obtain ⟨⟨wq2, hq⟩, e⟩ := hw'
                simp only at e
                subst e
                go_wp2
                exact ⟨⟨i + 1, K2, _, by simp, by omega, h6.keep hq, hR6.below hq, by omega, e6.trans (hq.mono (by have := e6.size; omega))⟩, by simp [valOf]; omega⟩
            · as_aux_lemma =>
                obtain ⟨px, cx, rfl⟩ := own_shape hR2.row
                have ka := at_tk w2 B b K2 h2 xi
                rw [hno] at ka
                replace ka : Calls Try.prog 15 #[.pointer (some ⟨b, 0, none⟩), .int .i64 xi] w2 fun e w' => e = .returned (.tuple #[.agg #[.int .i64 0, .int .u64 0], .bool false]) ∧ Below w2.heap.size w2 w' := ka
                go_upto_region 19 with (go_at_call 15; go_loud (refine ka.mono ?_; rintro e w5 ⟨rfl, hb5⟩))
                have hzn := heap_alloc_new w5 (.cells #[.int .i64 0, .int .u64 0] 34)
                have h6 := (h2.keep hb5).alloc (.cells #[.int .i64 0, .int .u64 0] 34)
                have hR6 := (hR2.below hb5).alloc (.cells #[.int .i64 0, .int .u64 0] 34)
                have hz6 := heap_al ((hb5.block _ (heap_lt hz2)).trans hz2) (.cells #[.int .i64 0, .int .u64 0] 34)
                have e6 : Below B w (w5.alloc (.cells #[.int .i64 0, .int .u64 0] 34)) := (e2.trans (hb5.mono h2.size)).alloc (h2.keep hb5).size _
                clear ka h2 hR2 hz2 e2 hb5 x0 x1 x2 x3
                generalize w5.alloc (.cells #[.int .i64 0, .int .u64 0] 34) = w6 at h6 hR6 hz6 e6 hzn ⊢
                generalize w5.heap.size = zn at hzn ⊢
                have x0 := (cell_of hz6 0).trans (show _ = some (Value.bool xd) from rfl)
                have x1 := (cell_of hz6 1).trans (show _ = some (Value.int .i64 xi) from rfl)
                have x2 := (cell_of hz6 2).trans (show _ = some (Value.int .i64 xs) from rfl)
                have x3 := (cell_of hz6 3).trans (show _ = some (Value.int .u64 (xg : Int)) from rfl)
                have c0 : w6.cell? ⟨r, 0, none⟩ = some (.slice px K2.length cx) := by rw [cell_of hR6.cells]; rfl
                go_quiet (fail)
                replace h6 := h6.drewN nq
                replace hR6 : Rl (w6.drewN nq) B r K2 _ := hR6.below (Below.drewN (Below.refl _ _) nq)
                replace hz6 : (w6.drewN nq).heap[z]? = _ := hz6
                replace hzn : (w6.drewN nq).heap[zn]? = _ := hzn
                replace e6 := Below.drewN e6 nq
                clear x0 x1 x2 x3 c0
                generalize w6.drewN nq = w7 at h6 hR6 hz6 e6 hzn ⊢
                have x0 := (cell_of hz6 0).trans (show _ = some (Value.bool xd) from rfl)
                have x1 := (cell_of hz6 1).trans (show _ = some (Value.int .i64 xi) from rfl)
                have x2 := (cell_of hz6 2).trans (show _ = some (Value.int .i64 xs) from rfl)
                have x3 := (cell_of hz6 3).trans (show _ = some (Value.int .u64 (xg : Int)) from rfl)
                obtain ⟨ha, hi2, -⟩ := out_at hkin
                have ki := idx_tk w7 B b K2 h6 (xs, xg)
                rw [hi2, decide_eq_false hkin] at ki
                simp only at ki
                replace hkin : Hid _ := hkin
                go_upto_region 21 with (go_at_call 16; go_loud (refine ki.mono ?_; rintro e w8 ⟨rfl, hb8⟩))
                replace h6 := h6.keep hb8
                replace hR6 := hR6.below hb8
                replace hz6 := (hb8.block _ (heap_lt hz6)).trans hz6
                replace hzn := (hb8.block _ (heap_lt hzn)).trans hzn
                replace e6 := e6.trans (hb8.mono (by have := e6.size; omega))
                clear ki hb8 x0 x1 x2 x3
                have x0 := fun p : BlBy w8 => (p.bl.cell (p := ⟨z, 0, none⟩) (heap_lt hz6)).trans (by rw [cell_of hz6]; rfl : w8.cell? ⟨z, 0, none⟩ = some (Value.bool xd))
                have x1 := fun p : BlBy w8 => (p.bl.cell (p := ⟨z, 1, none⟩) (heap_lt hz6)).trans (by rw [cell_of hz6]; rfl : w8.cell? ⟨z, 1, none⟩ = some (Value.int .i64 xi))
                have x2 := fun p : BlBy w8 => (p.bl.cell (p := ⟨z, 2, none⟩) (heap_lt hz6)).trans (by rw [cell_of hz6]; rfl : w8.cell? ⟨z, 2, none⟩ = some (Value.int .i64 xs))
                have x3 := fun p : BlBy w8 => (p.bl.cell (p := ⟨z, 3, none⟩) (heap_lt hz6)).trans (by rw [cell_of hz6]; rfl : w8.cell? ⟨z, 3, none⟩ = some (Value.int .u64 (xg : Int)))
                have kA := fun p : BlBy w8 => rat_at (hR6.below p.bl) h6.nd (xs, xg)
                rw [ha] at kA
                simp only at kA
                try dsimp only [List.append]
                try simp only [List.append_eq, List.cons_append, List.nil_append]
                have hne : Nonempty (BlBy w8) := ⟨⟨w8, Below.refl _ w8⟩⟩
                refine wp_region_bl (by kernel_rfl) (by kernel_rfl) ?_
                repeat (first
                  | go_big_quiet_skip
                  | (go_big_quiet_want; go_big_quiet_op; first
                    | go_big_quiet_on
                    | (apply Exists.intro
                       refine ⟨fun p => ?_, ?_⟩
                       · first
                           | (go_at_call 10; exact calls_bl (kA p))
                       go_big_quiet_on)))
                refine wpQuiet_nil ?_
                intro wq hw'
                obtain ⟨⟨wq2, hq⟩, e⟩ := hw'
                simp only at e
                subst e
                replace h6 := h6.keep hq
                replace hR6 := hR6.below hq
                replace hz6 := (hq.block _ (heap_lt hz6)).trans hz6
                replace hzn := (hq.block _ (heap_lt hzn)).trans hzn
                replace e6 := e6.trans (hq.mono (by have := e6.size; omega))
                clear kA hq x0 x1 x2 x3 hne
                go_upto_region 22 with fail
                have x0 := fun p : BlBy wq => (p.bl.cell (p := ⟨z, 0, none⟩) (heap_lt hz6)).trans (by rw [cell_of hz6]; rfl : wq.cell? ⟨z, 0, none⟩ = some (Value.bool xd))
                have x1 := fun p : BlBy wq => (p.bl.cell (p := ⟨z, 1, none⟩) (heap_lt hz6)).trans (by rw [cell_of hz6]; rfl : wq.cell? ⟨z, 1, none⟩ = some (Value.int .i64 xi))
                have x2 := fun p : BlBy wq => (p.bl.cell (p := ⟨z, 2, none⟩) (heap_lt hz6)).trans (by rw [cell_of hz6]; rfl : wq.cell? ⟨z, 2, none⟩ = some (Value.int .i64 xs))
                have x3 := fun p : BlBy wq => (p.bl.cell (p := ⟨z, 3, none⟩) (heap_lt hz6)).trans (by rw [cell_of hz6]; rfl : wq.cell? ⟨z, 3, none⟩ = some (Value.int .u64 (xg : Int)))
                have n0 := fun p : BlBy wq => (p.bl.cell (p := ⟨zn, 0, none⟩) (heap_lt hzn)).trans (by rw [cell_of hzn]; rfl : wq.cell? ⟨zn, 0, none⟩ = some (.int .i64 0))
                have n1 := fun p : BlBy wq => (p.bl.cell (p := ⟨zn, 1, none⟩) (heap_lt hzn)).trans (by rw [cell_of hzn]; rfl : wq.cell? ⟨zn, 1, none⟩ = some (.int .u64 0))
                have kK := fun p : BlBy wq => alike_any p.wo B b r K2 _ (h6.keep p.bl) (hR6.below p.bl)
                have nq2 := fun W => neqH 0 0 0 0 W
                simp only [beq_self_eq_true, Bool.and_self, Bool.not_true] at nq2
                try dsimp only [List.append]
                try simp only [List.append_eq, List.cons_append, List.nil_append]
                have hne : Nonempty (BlBy wq) := ⟨⟨wq, Below.refl _ wq⟩⟩
                refine wp_region_bl (by kernel_rfl) (by kernel_rfl) ?_
                repeat (first
                  | go_big_quiet_skip
                  | (go_big_quiet_want; go_big_quiet_op; first
                    | go_big_quiet_on
                    | (apply Exists.intro
                       refine ⟨fun p => ?_, ?_⟩
                       · first
                           | (go_at_call 17; exact calls_bl (kK p))
                       go_big_quiet_on)))
                refine wpQuiet_nil ?_
                intro wz hw'
                obtain ⟨⟨wq2, hq⟩, e⟩ := hw'
                simp only at e
                subst e
                go_wp2
                exact ⟨⟨i + 1, K2, _, by simp, by omega, h6.keep hq, hR6.below hq, by omega, e6.trans (hq.mono (by have := e6.size; omega))⟩, by simp [valOf]; omega⟩
    · have d : decide ((i : Int) < L0.length) = false := by simp; omega
      go_wp2_with (go_at_call 8; refine (kw _).mono ?_; rintro e w4 ⟨rfl, hb4⟩)
      all_goals go_returns
      exact ⟨rfl, by rw [hB0.out]; exact hbl.trans (hb4.mono hR.size)⟩

theorem readable : ∀ t ∈ Try.f3.params.toList, Try.prog.readableRec t = true ∧ t < Try.prog.types.size := by
  rw [Try.params3]
  intro t ht
  simp at ht
  rcases ht with rfl
  all_goals exact ⟨by kernel_rfl, of_decide_eq_true (by kernel_rfl)⟩
set_option maxRecDepth 100000 in
theorem lifted (os : Os) (started : os.Started) (H : Type) (enc : TypeId × Value → H) :
    ReturnsInHanded {} Try.checked os 3 .any (Rows.treePlaysSpec.pre6 enc Try.prog Try.f3 Rows.treePlaysRow.domain false) (Rows.treePlaysSpec.post enc Try.prog Try.f3 false true false false) := by
  refine returnsInHanded_of_change (C := Try.checked) own started (by kernel_rfl) Try.func3
    (ChangeSpec.witness6 (enc := enc) (C := Try.checked) false ⟨#[], #[.slice none 0 0], []⟩ 8 (by kernel_rfl) (by kernel_rfl) (by kernel_rfl) (by kernel_rfl)) ?_
  intro W base args ds gs before hval0 hW hcnd _
  have hval : ∀ (j : Nat) t v, Try.f3.params[j]? = some t → args[j]? = some v → Value.okWide Try.prog W .any base t v := hval0
  have hW' := hW
  obtain ⟨p, q, hA0, hV, rfl, hfz, hnd⟩ := hW
  have hA : DataW.TrodAll enc Try.prog W 0 (fun _ => true) true Try.f3.params.toList args.toList ds p := hA0
  rw [Try.params3] at hA hval
  obtain ⟨v0, vs0, d0, ds0, p0, q0, hargs, rfl, rfl, h0, r0⟩ := trodAll_cons hA
  obtain ⟨rfl, rfl, rfl⟩ := trodAll_nil r0
  obtain rfl : args = #[v0] := by cases args; simp_all
  obtain ⟨rfl, rfl⟩ := trodVars_none hV
  obtain ⟨p0, L0, c0, rfl, hL0⟩ := open_sts (hval 0 22 v0 rfl rfl) h0
  clear hA0 hval0
  refine (walk p0 L0 c0 W hL0).mono fun e W' ⟨he, hg⟩ => ?_
  subst he
  exact ⟨_, rfl, post_bel readable hW' rfl (fun _ _ _ => (trodAll_cons_mk (shut_bool Try.underlying4 _) trodAll_mk0)) rfl (fun _ => rfl)
    hg (ok_one (by kernel_rfl) rfl (okWide_bool_mk Try.underlying4 _))⟩

theorem over : Rows.treePlaysRow.holds Try.pinned (OpenSpec.ofChange Rows.treePlaysSpec) :=
  OpenClaim.holds_of_wide 3 Try.f3 rfl rfl rfl rfl rfl rfl rfl ⟨rfl, rfl, rfl, rfl, rfl⟩ rfl rfl rfl rfl rfl (by kernel_rfl) Try.func3 (by kernel_rfl)
    (of_decide_eq_true (by kernel_rfl)) (by unfold Func.isWrapper; first | (rw [if_pos (by decide +kernel)]; kernel_rfl) | (rw [if_neg (by decide +kernel)]; exact ⟨rfl, rfl⟩))
    (fun os started H enc _ => lifted os started H enc)

theorem proved : Rows.TreePlaysSaid :=
  over
end Go.Proofs.Ythgmfcklipkbiaa.treePlays
namespace Go.Proofs.Ythgmfcklipkbiaa
theorem treePlays_holds : Rows.TreePlaysSaid :=
  treePlays.proved
#print axioms treePlays_holds
end Go.Proofs.Ythgmfcklipkbiaa
