/- GraphDrains: what is at a place is told in order by Drain, and may be put anywhere then; what is at others stays: the statement as given. No condition. -/
import Derived.Test.YthgpbbpmfpfjnaaGY
import Derived.Deep.CutBlock
import Derived.Lib.SmallJoins
import Derived.WalkKit
import Derived.ProofKit
import Derived.OpenShut
import Derived.ShutString
namespace Go.Proofs.Ythgpbbpmfpfjnaa.graphDrains
open Go.ChangeShapes Go.WideShapes Go.ChangeAt Go.RowKit
open Go.ChangeMaps (open_string shut_string)
set_option linter.unusedVariables false
set_option linter.unusedSimpArgs false

theorem own : ownKnob Try.prog.godebug = none := by kernel_rfl

set_option maxRecDepth 100000 in
set_option maxHeartbeats 16000000 in
theorem walk (a0 : Int) (a1 : Bool) (a2 : Bool) (a3 b3 g3 : Int) (a4 b4 g4 : Int) (w : World) (w0 : (Lit.int .u8 a0).wf = true)     :
    Calls Try.prog 4 #[.int .u8 a0, .bool a1, .bool a2, .agg #[.int .i64 a3, .int .i64 b3, .int .i64 g3], .agg #[.int .i64 a4, .int .i64 b4, .int .i64 g4]] w fun e w' => e = .returned (.bool true) ∧ Below w.heap.size w w' := by
  have kw := fun W => works_any W
  have e1 := P.eqlP (a3, b3, g3) (a4, b4, g4)
  simp only [P.hK] at e1
  have y8 := heap_al (heap_alloc_new w (.cells #[.int .i64 a3, .int .i64 b3, .int .i64 g3] 28)) (.cells #[.int .i64 a4, .int .i64 b4, .int .i64 g4] 28)
  have y9 := heap_alloc_new (w.alloc (.cells #[.int .i64 a3, .int .i64 b3, .int .i64 g3] 28)) (.cells #[.int .i64 a4, .int .i64 b4, .int .i64 g4] 28)
  rw [World.size_alloc] at y9
  have hbw2 : Below w.heap.size w ((w.alloc (.cells #[.int .i64 a3, .int .i64 b3, .int .i64 g3] 28)).alloc (.cells #[.int .i64 a4, .int .i64 b4, .int .i64 g4] 28)) := ((Below.refl _ w).alloc (Nat.le_refl _) _).alloc (by simp) _
  by_cases hpq : ((a3, b3, g3) : PKey) = (a4, b4, g4)
  · rw [decide_eq_true hpq] at e1
    go_enter Try.func4, Try.ntmps4
    go_upto_region 1 with fail
    generalize (w.alloc (.cells #[.int .i64 a3, .int .i64 b3, .int .i64 g3] 28)).alloc (.cells #[.int .i64 a4, .int .i64 b4, .int .i64 g4] 28) = w2 at y8 y9 hbw2 ⊢
    obtain ⟨p0, p1, p2⟩ := pl_cells (p := (a3, b3, g3)) y8
    obtain ⟨p3, p4, p5⟩ := pl_cells (p := (a4, b4, g4)) y9
    simp only at p0 p1 p2 p3 p4 p5
    go_wp2_with (go_at_call 7; refine (kw _).mono ?_; rintro e w3 ⟨rfl, hb⟩)
    all_goals go_returns
    exact ⟨rfl, hbw2.trans (hb.mono hbw2.size)⟩
  rw [decide_eq_false hpq] at e1
  have hA0 := wf_u8 w0
  obtain ⟨n, hn, hna⟩ : ∃ n : Nat, n ≤ 59 ∧ a0.tmod 60 = n := ⟨(a0.tmod 60).toNat, by have := Int.tmod_lt_of_pos a0 (show (0 : Int) < 60 by decide); omega, by have := Int.tmod_nonneg 60 hA0.1; omega⟩
  have e2 : IntKind.i64.wrap (n : Int) = n := IntWalk.i64_in _ (by omega)
  go_enter Try.func4, Try.ntmps4
  go_upto_region 1 with fail
  generalize (w.alloc (.cells #[.int .i64 a3, .int .i64 b3, .int .i64 g3] 28)).alloc (.cells #[.int .i64 a4, .int .i64 b4, .int .i64 g4] 28) = w2 at y8 y9 hbw2 ⊢
  obtain ⟨p0, p1, p2⟩ := pl_cells (p := (a3, b3, g3)) y8
  obtain ⟨p3, p4, p5⟩ := pl_cells (p := (a4, b4, g4)) y9
  simp only at p0 p1 p2 p3 p4 p5
  have k1 := gnew_any w2
  go_upto_region 5 with (go_at_call 8; refine k1.mono ?_; rintro e w3 ⟨g, A, rfl, h1, hb1⟩)
  clear k1 p0 p1 p2 p3 p4 p5 e1
  have hz9 := heap_lt y9
  have hwz2 := hbw2.size
  rw [show (fun _ => none : Ys) = twoG (a3, b3, g3) (a4, b4, g4) (oF a1 8 (ixF 0 a2)) (oF false 16 (List.range 0)) from by rw [← twoG_none (p := (a3, b3, g3)) (q := (a4, b4, g4))]; cases a2 <;> rfl] at h1
  generalize hB0 : w2.heap.size = B at h1 hb1 hz9 hwz2 ⊢
  generalize hwz : w.heap.size = wz at y8 y9 hz9 hbw2 hwz2 ⊢
  replace hB0 : Hid _ := hB0
  replace hwz : Hid _ := hwz
  replace hpq : Hid _ := hpq
  go_wp2
  go_loopw [13, 14] (fun n13 n14 wr => ∃ (i : Nat) (pp : Option Addr) (cc : Nat) (A : Nat → Prop), n13 = .slice pp i cc ∧ n14 = .int .i64 i ∧ i ≤ n ∧ Gi wr B g (2 * i) (twoG (a3, b3, g3) (a4, b4, g4) (oF a1 8 (ixF i a2)) (oF false 16 (List.range i))) A ∧ wr.ownsRow B 31 2 (.slice pp i cc) i (hCells (keysF (ixF i a2))) ∧ (i = 0 → Value.slice pp i cc = .slice none 0 0) ∧ (∀ j, (Value.slice pp i cc).ownBlock = some j → ¬ A j) ∧ Below B w2 wr) (fun _ n14 _ => n - (valOf n14).toNat)
  case atStart => exact ⟨0, none, 0, A, rfl, rfl, by omega, h1, (by cases a2 <;> exact World.ownsRow_nil _ _ _ _), (fun _ => rfl), (by intro j e; cases e), hb1⟩
  case round =>
    clear h1 hb1
    obtain ⟨i, pp, cc, A, rfl, rfl, hi, hG, hrow, hv0, hvA, hbl⟩ := hrel
    by_cases hin : i < n
    · have d : decide ((i : Int) < n) = true := by simp; omega
      have e9 : IntKind.i64.wrap ((i : Int) + 1) = (i : Int) + 1 := IntWalk.i64_in _ (by omega)
      have e8 : IntKind.u8.wrap (i : Int) = i := IntWalk.u8_in _ (by omega)
      have k1 := one_any i (by omega) wr
      go_upto_region 10 with (go_at_call 18; go_loud (refine k1.mono ?_; rintro e w5 ⟨rfl, hb5⟩))
      have hbv := hb5.alloc hb5.size (.cells #[.int .i64 i, .int .u64 1] 31)
      have hG1 := hG.bel hbv
      have hb6 : Below B w2 (w5.alloc (.cells #[.int .i64 i, .int .u64 1] 31)) := hbl.trans (hbv.mono hG.size)
      have hr6 : (w5.alloc (.cells #[.int .i64 i, .int .u64 1] 31)).ownsRow B 31 2 (.slice pp i cc) i (hCells (keysF (ixF i a2))) := row_kept hrow fun j hj => hbv.block j (hrow.lt j hj).2
      have y15 := heap_alloc_new w5 (.cells #[.int .i64 i, .int .u64 1] 31)
      have n15 : ¬ A w5.heap.size := fun q => by have := ((hG.bel hb5).lt _ q).2; omega
      have m15 : (Value.slice pp i cc).ownBlock ≠ some w5.heap.size := fun q => by have := (hrow.lt _ q).2; have := hb5.size; omega
      clear k1 hG hrow hbl hb5 hbv
      generalize w5.alloc (.cells #[.int .i64 i, .int .u64 1] 31) = w6 at hG1 hb6 hr6 y15 ⊢
      generalize w5.heap.size = z15 at y15 n15 m15 ⊢
      have y8b := (hb6.block wz (by omega)).trans y8
      have y9b := (hb6.block (wz + 1) (by omega)).trans y9
      obtain ⟨p0, p1, p2⟩ := pl_cells (p := (a3, b3, g3)) y8b
      simp only at p0 p1 p2
      have k2 := gi_len w6 B g (2 * i) _ _ hG1 (a3, b3, g3)
      rw [d_lenp, oF_len, ixF_len] at k2
      simp only [pK, P.hK] at k2
      go_upto_region 11 with (go_at_call 15; go_loud (refine k2.mono ?_; rintro e w7 ⟨rfl, hb⟩))
      have hG2 := hG1.bel hb
      have hb7 : Below B w2 w7 := hb6.trans (hb.mono hG1.size)
      have hr7 := row_kept hr6 fun j hj => hb.block j (hr6.lt j hj).2
      have y15 := (hb.block _ (heap_lt y15)).trans y15
      clear k2 p0 p1 p2 y8b y9b hG1 hb6 hr6 hb
      obtain ⟨p0, p1, p2⟩ := pl_cells (p := (a3, b3, g3)) ((hb7.block wz (by omega)).trans y8)
      obtain ⟨x0, x1⟩ := hd_cells (k := ((i : Int), 1)) y15
      simp only at p0 p1 p2 x0 x1
      have hl15 := heap_lt y15
      cases a1 <;> cases a2
      · have eI := d_push (p := (a3, b3, g3)) (q := (a4, b4, g4)) (l := ixF i false) (m := List.range i) (i := i) (by rw [ixF_mem]; omega) false
        rw [← ixF_succ] at eI
        have k3 := gpush_any w7 B g (2 * i) _ _ hG2 (by omega) (a3, b3, g3) (fk 8 i) false
        rw [eI] at k3
        simp only [pK, P.hK, hK2, fk] at k3
        go_upto_region 15 with (go_at_call 9; go_loud (refine k3.mono ?_; rintro e w8 ⟨rfl, A8, hG3, hF3⟩))
        have y15 := hF3.box y15 n15
        have hr8 := row_kept hr7 fun j hj => hF3.keep j (hr7.lt j hj).2 (hvA j hj)
        have hv8 : ∀ j, (Value.slice pp i cc).ownBlock = some j → ¬ A8 j := fun j hj q => (hF3.sub j q).elim (hvA j hj) (fun c => by have := (hr7.lt j hj).2; omega)
        have n8 : ¬ A8 z15 := fun q => (hF3.sub z15 q).elim n15 (fun c => by omega)
        have hb8 := hb7.trans hF3.bel
        clear k3 eI p0 p1 p2 x0 x1 hF3 hr7 hb7 hG2
        obtain ⟨p3, p4, p5⟩ := pl_cells (p := (a4, b4, g4)) ((hb8.block (wz + 1) (by omega)).trans y9)
        obtain ⟨x0, x1⟩ := hd_cells (k := ((i : Int), 1)) y15
        simp only at p3 p4 p5 x0 x1
        have eQ := d_pushq (p := (a3, b3, g3)) (q := (a4, b4, g4)) hpq.out (tr := false) (l := ixF (i + 1) false) (m := List.range i) (i := i) (by simp)
        rw [← List.range_succ] at eQ
        have k4 := gpush_any w8 B g (2 * i + 1) _ _ hG3 (by omega) (a4, b4, g4) (fk 16 i) false
        rw [eQ] at k4
        simp only [pK, P.hK, hK2, fk] at k4
        go_upto_region 17 with (go_at_call 9; go_loud (refine k4.mono ?_; rintro e w9 ⟨rfl, A9, hG4, hF4⟩))
        have y15 := hF4.box y15 n8
        have hr9 := row_kept hr8 fun j hj => hF4.keep j (hr8.lt j hj).2 (hv8 j hj)
        have hv9 : ∀ j, (Value.slice pp i cc).ownBlock = some j → ¬ A9 j := fun j hj q => (hF4.sub j q).elim (hv8 j hj) (fun c => by have := (hr8.lt j hj).2; omega)
        have hb9 := hb8.trans hF4.bel
        clear k4 eQ p3 p4 p5 x0 x1 hF4 hr8 hb8 hG3 n8 hv8
        obtain ⟨x0, x1⟩ := hd_cells (k := ((i : Int), 1)) y15
        simp only at x0 x1
        have hkl : (keysF (ixF i false)).length = i := by simp [keysF, ixF_len]
        obtain ⟨v', w', hrun, hr', hkp, hbw, hob⟩ := want_app w9 B (.slice pp i cc) (keysF (ixF i false)) (by rw [hkl]; exact hr9) hG4.size (by omega) (fun e => hv0 (by have := congrArg List.length e; rw [hkl] at this; simpa using this)) ((i : Int), 1) false
        simp only [Bool.false_eq_true, if_false, if_true, Int.ofNat_one] at hrun
        have hsh := own_shape hr'
        rw [hkl] at hsh hr'
        obtain ⟨pp', cc', rfl⟩ := hsh
        have hG5 : Gi w' B g (2 * i + 2) _ A9 := hG4.keep fun k hk => hkp k (hG4.lt k hk).2 (fun e => hv9 k e.symm hk)
        have hr5 : w'.ownsRow B 31 2 (.slice pp' (i + 1) cc') (i + 1) (hCells (keysF (ixF (i + 1) false))) := by
          rw [ixF_succ]
          have e : keysF (if false then i :: ixF i false else ixF i false ++ [i]) = if false then ((i : Int), 1) :: keysF (ixF i false) else keysF (ixF i false) ++ [((i : Int), 1)] := by simp [keysF]
          rw [e]
          exact hr'
        have hv5 : ∀ j, (Value.slice pp' (i + 1) cc').ownBlock = some j → ¬ A9 j := fun j hj q => by
          rcases hob with e | ⟨k, e, hk⟩
          · exact hv9 j (e ▸ hj) q
          · rw [hj] at e
            cases e
            have := (hG4.lt j q).2
            omega
        have hb5 := hb9.trans hbw
        clear hr' hkp hob hr9 hv9 hb9 hG4 hbw
        go_wp2_with (at_builtin; refine Lib.wpList_append_run _ rfl _ _ 40 40 rfl _ _ rfl rfl _ _ hrun ?_)
        refine ⟨⟨i + 1, pp', cc', A9, by simp, by simp, by omega, hG5, hr5, (fun e => by omega), hv5, hb5⟩, ?_⟩
        simp only [valOf]
        omega
      · have eI := d_push (p := (a3, b3, g3)) (q := (a4, b4, g4)) (l := ixF i true) (m := List.range i) (i := i) (by rw [ixF_mem]; omega) true
        rw [← ixF_succ] at eI
        have k3 := gpush_any w7 B g (2 * i) _ _ hG2 (by omega) (a3, b3, g3) (fk 8 i) true
        rw [eI] at k3
        simp only [pK, P.hK, hK2, fk] at k3
        go_upto_region 15 with (go_at_call 9; go_loud (refine k3.mono ?_; rintro e w8 ⟨rfl, A8, hG3, hF3⟩))
        have y15 := hF3.box y15 n15
        have hr8 := row_kept hr7 fun j hj => hF3.keep j (hr7.lt j hj).2 (hvA j hj)
        have hv8 : ∀ j, (Value.slice pp i cc).ownBlock = some j → ¬ A8 j := fun j hj q => (hF3.sub j q).elim (hvA j hj) (fun c => by have := (hr7.lt j hj).2; omega)
        have n8 : ¬ A8 z15 := fun q => (hF3.sub z15 q).elim n15 (fun c => by omega)
        have hb8 := hb7.trans hF3.bel
        clear k3 eI p0 p1 p2 x0 x1 hF3 hr7 hb7 hG2
        obtain ⟨p3, p4, p5⟩ := pl_cells (p := (a4, b4, g4)) ((hb8.block (wz + 1) (by omega)).trans y9)
        obtain ⟨x0, x1⟩ := hd_cells (k := ((i : Int), 1)) y15
        simp only at p3 p4 p5 x0 x1
        have eQ := d_pushq (p := (a3, b3, g3)) (q := (a4, b4, g4)) hpq.out (tr := false) (l := ixF (i + 1) true) (m := List.range i) (i := i) (by simp)
        rw [← List.range_succ] at eQ
        have k4 := gpush_any w8 B g (2 * i + 1) _ _ hG3 (by omega) (a4, b4, g4) (fk 16 i) false
        rw [eQ] at k4
        simp only [pK, P.hK, hK2, fk] at k4
        go_upto_region 17 with (go_at_call 9; go_loud (refine k4.mono ?_; rintro e w9 ⟨rfl, A9, hG4, hF4⟩))
        have y15 := hF4.box y15 n8
        have hr9 := row_kept hr8 fun j hj => hF4.keep j (hr8.lt j hj).2 (hv8 j hj)
        have hv9 : ∀ j, (Value.slice pp i cc).ownBlock = some j → ¬ A9 j := fun j hj q => (hF4.sub j q).elim (hv8 j hj) (fun c => by have := (hr8.lt j hj).2; omega)
        have hb9 := hb8.trans hF4.bel
        clear k4 eQ p3 p4 p5 x0 x1 hF4 hr8 hb8 hG3 n8 hv8
        obtain ⟨x0, x1⟩ := hd_cells (k := ((i : Int), 1)) y15
        simp only at x0 x1
        have hkl : (keysF (ixF i true)).length = i := by simp [keysF, ixF_len]
        obtain ⟨v', w', hrun, hr', hkp, hbw, hob⟩ := want_app w9 B (.slice pp i cc) (keysF (ixF i true)) (by rw [hkl]; exact hr9) hG4.size (by omega) (fun e => hv0 (by have := congrArg List.length e; rw [hkl] at this; simpa using this)) ((i : Int), 1) true
        simp only [Bool.false_eq_true, if_false, if_true, Int.ofNat_one] at hrun
        have hsh := own_shape hr'
        rw [hkl] at hsh hr'
        obtain ⟨pp', cc', rfl⟩ := hsh
        have hG5 : Gi w' B g (2 * i + 2) _ A9 := hG4.keep fun k hk => hkp k (hG4.lt k hk).2 (fun e => hv9 k e.symm hk)
        have hr5 : w'.ownsRow B 31 2 (.slice pp' (i + 1) cc') (i + 1) (hCells (keysF (ixF (i + 1) true))) := by
          rw [ixF_succ]
          have e : keysF (if true then i :: ixF i true else ixF i true ++ [i]) = if true then ((i : Int), 1) :: keysF (ixF i true) else keysF (ixF i true) ++ [((i : Int), 1)] := by simp [keysF]
          rw [e]
          exact hr'
        have hv5 : ∀ j, (Value.slice pp' (i + 1) cc').ownBlock = some j → ¬ A9 j := fun j hj q => by
          rcases hob with e | ⟨k, e, hk⟩
          · exact hv9 j (e ▸ hj) q
          · rw [hj] at e
            cases e
            have := (hG4.lt j q).2
            omega
        have hb5 := hb9.trans hbw
        clear hr' hkp hob hr9 hv9 hb9 hG4 hbw
        go_wp2_with (at_builtin; refine Lib.wpList_append_run _ rfl _ _ 40 40 rfl _ _ rfl rfl _ _ hrun ?_)
        refine ⟨⟨i + 1, pp', cc', A9, by simp, by simp, by omega, hG5, hr5, (fun e => by omega), hv5, hb5⟩, ?_⟩
        simp only [valOf]
        omega
      · have eI := d_ins (p := (a3, b3, g3)) (q := (a4, b4, g4)) (l := ixF i false) (m := List.range i) (i := i) (by rw [ixF_mem]; omega) false
        rw [← ixF_succ, ixF_len] at eI
        simp only [if_true, Bool.false_eq_true, if_false] at eI
        have k3 := gins_any w7 B g (2 * i) _ _ hG2 (by omega) (a3, b3, g3) (i : Int) (fk 8 i)
        rw [eI] at k3
        simp only [pK, P.hK, hK2, fk] at k3
        go_upto_region 15 with (go_at_call 10; go_loud (refine k3.mono ?_; rintro e w8 ⟨rfl, A8, hG3, hF3⟩))
        have y15 := hF3.box y15 n15
        have hr8 := row_kept hr7 fun j hj => hF3.keep j (hr7.lt j hj).2 (hvA j hj)
        have hv8 : ∀ j, (Value.slice pp i cc).ownBlock = some j → ¬ A8 j := fun j hj q => (hF3.sub j q).elim (hvA j hj) (fun c => by have := (hr7.lt j hj).2; omega)
        have n8 : ¬ A8 z15 := fun q => (hF3.sub z15 q).elim n15 (fun c => by omega)
        have hb8 := hb7.trans hF3.bel
        clear k3 eI p0 p1 p2 x0 x1 hF3 hr7 hb7 hG2
        obtain ⟨p3, p4, p5⟩ := pl_cells (p := (a4, b4, g4)) ((hb8.block (wz + 1) (by omega)).trans y9)
        obtain ⟨x0, x1⟩ := hd_cells (k := ((i : Int), 1)) y15
        simp only at p3 p4 p5 x0 x1
        have eQ := d_pushq (p := (a3, b3, g3)) (q := (a4, b4, g4)) hpq.out (tr := true) (l := ixF (i + 1) false) (m := List.range i) (i := i) (by simp)
        rw [← List.range_succ] at eQ
        have k4 := gpush_any w8 B g (2 * i + 1) _ _ hG3 (by omega) (a4, b4, g4) (fk 16 i) false
        rw [eQ] at k4
        simp only [pK, P.hK, hK2, fk] at k4
        go_upto_region 17 with (go_at_call 9; go_loud (refine k4.mono ?_; rintro e w9 ⟨rfl, A9, hG4, hF4⟩))
        have y15 := hF4.box y15 n8
        have hr9 := row_kept hr8 fun j hj => hF4.keep j (hr8.lt j hj).2 (hv8 j hj)
        have hv9 : ∀ j, (Value.slice pp i cc).ownBlock = some j → ¬ A9 j := fun j hj q => (hF4.sub j q).elim (hv8 j hj) (fun c => by have := (hr8.lt j hj).2; omega)
        have hb9 := hb8.trans hF4.bel
        clear k4 eQ p3 p4 p5 x0 x1 hF4 hr8 hb8 hG3 n8 hv8
        obtain ⟨x0, x1⟩ := hd_cells (k := ((i : Int), 1)) y15
        simp only at x0 x1
        have hkl : (keysF (ixF i false)).length = i := by simp [keysF, ixF_len]
        obtain ⟨v', w', hrun, hr', hkp, hbw, hob⟩ := want_app w9 B (.slice pp i cc) (keysF (ixF i false)) (by rw [hkl]; exact hr9) hG4.size (by omega) (fun e => hv0 (by have := congrArg List.length e; rw [hkl] at this; simpa using this)) ((i : Int), 1) false
        simp only [Bool.false_eq_true, if_false, if_true, Int.ofNat_one] at hrun
        have hsh := own_shape hr'
        rw [hkl] at hsh hr'
        obtain ⟨pp', cc', rfl⟩ := hsh
        have hG5 : Gi w' B g (2 * i + 2) _ A9 := hG4.keep fun k hk => hkp k (hG4.lt k hk).2 (fun e => hv9 k e.symm hk)
        have hr5 : w'.ownsRow B 31 2 (.slice pp' (i + 1) cc') (i + 1) (hCells (keysF (ixF (i + 1) false))) := by
          rw [ixF_succ]
          have e : keysF (if false then i :: ixF i false else ixF i false ++ [i]) = if false then ((i : Int), 1) :: keysF (ixF i false) else keysF (ixF i false) ++ [((i : Int), 1)] := by simp [keysF]
          rw [e]
          exact hr'
        have hv5 : ∀ j, (Value.slice pp' (i + 1) cc').ownBlock = some j → ¬ A9 j := fun j hj q => by
          rcases hob with e | ⟨k, e, hk⟩
          · exact hv9 j (e ▸ hj) q
          · rw [hj] at e
            cases e
            have := (hG4.lt j q).2
            omega
        have hb5 := hb9.trans hbw
        clear hr' hkp hob hr9 hv9 hb9 hG4 hbw
        go_wp2_with (at_builtin; refine Lib.wpList_append_run _ rfl _ _ 40 40 rfl _ _ rfl rfl _ _ hrun ?_)
        refine ⟨⟨i + 1, pp', cc', A9, by simp, by simp, by omega, hG5, hr5, (fun e => by omega), hv5, hb5⟩, ?_⟩
        simp only [valOf]
        omega
      · have eI := d_ins (p := (a3, b3, g3)) (q := (a4, b4, g4)) (l := ixF i true) (m := List.range i) (i := i) (by rw [ixF_mem]; omega) true
        rw [← ixF_succ, ixF_len] at eI
        simp only [if_true, Bool.false_eq_true, if_false] at eI
        have k3 := gins_any w7 B g (2 * i) _ _ hG2 (by omega) (a3, b3, g3) 0 (fk 8 i)
        rw [eI] at k3
        simp only [pK, P.hK, hK2, fk] at k3
        go_upto_region 15 with (go_at_call 10; go_loud (refine k3.mono ?_; rintro e w8 ⟨rfl, A8, hG3, hF3⟩))
        have y15 := hF3.box y15 n15
        have hr8 := row_kept hr7 fun j hj => hF3.keep j (hr7.lt j hj).2 (hvA j hj)
        have hv8 : ∀ j, (Value.slice pp i cc).ownBlock = some j → ¬ A8 j := fun j hj q => (hF3.sub j q).elim (hvA j hj) (fun c => by have := (hr7.lt j hj).2; omega)
        have n8 : ¬ A8 z15 := fun q => (hF3.sub z15 q).elim n15 (fun c => by omega)
        have hb8 := hb7.trans hF3.bel
        clear k3 eI p0 p1 p2 x0 x1 hF3 hr7 hb7 hG2
        obtain ⟨p3, p4, p5⟩ := pl_cells (p := (a4, b4, g4)) ((hb8.block (wz + 1) (by omega)).trans y9)
        obtain ⟨x0, x1⟩ := hd_cells (k := ((i : Int), 1)) y15
        simp only at p3 p4 p5 x0 x1
        have eQ := d_pushq (p := (a3, b3, g3)) (q := (a4, b4, g4)) hpq.out (tr := true) (l := ixF (i + 1) true) (m := List.range i) (i := i) (by simp)
        rw [← List.range_succ] at eQ
        have k4 := gpush_any w8 B g (2 * i + 1) _ _ hG3 (by omega) (a4, b4, g4) (fk 16 i) false
        rw [eQ] at k4
        simp only [pK, P.hK, hK2, fk] at k4
        go_upto_region 17 with (go_at_call 9; go_loud (refine k4.mono ?_; rintro e w9 ⟨rfl, A9, hG4, hF4⟩))
        have y15 := hF4.box y15 n8
        have hr9 := row_kept hr8 fun j hj => hF4.keep j (hr8.lt j hj).2 (hv8 j hj)
        have hv9 : ∀ j, (Value.slice pp i cc).ownBlock = some j → ¬ A9 j := fun j hj q => (hF4.sub j q).elim (hv8 j hj) (fun c => by have := (hr8.lt j hj).2; omega)
        have hb9 := hb8.trans hF4.bel
        clear k4 eQ p3 p4 p5 x0 x1 hF4 hr8 hb8 hG3 n8 hv8
        obtain ⟨x0, x1⟩ := hd_cells (k := ((i : Int), 1)) y15
        simp only at x0 x1
        have hkl : (keysF (ixF i true)).length = i := by simp [keysF, ixF_len]
        obtain ⟨v', w', hrun, hr', hkp, hbw, hob⟩ := want_app w9 B (.slice pp i cc) (keysF (ixF i true)) (by rw [hkl]; exact hr9) hG4.size (by omega) (fun e => hv0 (by have := congrArg List.length e; rw [hkl] at this; simpa using this)) ((i : Int), 1) true
        simp only [Bool.false_eq_true, if_false, if_true, Int.ofNat_one] at hrun
        have hsh := own_shape hr'
        rw [hkl] at hsh hr'
        obtain ⟨pp', cc', rfl⟩ := hsh
        have hG5 : Gi w' B g (2 * i + 2) _ A9 := hG4.keep fun k hk => hkp k (hG4.lt k hk).2 (fun e => hv9 k e.symm hk)
        have hr5 : w'.ownsRow B 31 2 (.slice pp' (i + 1) cc') (i + 1) (hCells (keysF (ixF (i + 1) true))) := by
          rw [ixF_succ]
          have e : keysF (if true then i :: ixF i true else ixF i true ++ [i]) = if true then ((i : Int), 1) :: keysF (ixF i true) else keysF (ixF i true) ++ [((i : Int), 1)] := by simp [keysF]
          rw [e]
          exact hr'
        have hv5 : ∀ j, (Value.slice pp' (i + 1) cc').ownBlock = some j → ¬ A9 j := fun j hj q => by
          rcases hob with e | ⟨k, e, hk⟩
          · exact hv9 j (e ▸ hj) q
          · rw [hj] at e
            cases e
            have := (hG4.lt j q).2
            omega
        have hb5 := hb9.trans hbw
        clear hr' hkp hob hr9 hv9 hb9 hG4 hbw
        go_wp2_with (at_builtin; refine Lib.wpList_append_run _ rfl _ _ 40 40 rfl _ _ rfl rfl _ _ hrun ?_)
        refine ⟨⟨i + 1, pp', cc', A9, by simp, by simp, by omega, hG5, hr5, (fun e => by omega), hv5, hb5⟩, ?_⟩
        simp only [valOf]
        omega
    · have d : decide ((i : Int) < n) = false := by simp; omega
      obtain rfl : i = n := by omega
      have y8b := (hbl.block wz (by omega)).trans y8
      obtain ⟨p0, p1, p2⟩ := pl_cells (p := (a3, b3, g3)) y8b
      simp only at p0 p1 p2
      have k1 := gdrain_any wr B g (2 * i) _ _ hG (by omega) (a3, b3, g3)
      rw [d_keys, twoG_up] at k1
      simp only [pK, P.hK] at k1
      have hlen : (keysF (ixF i a2)).length = i := by simp [keysF, ixF_len]
      rw [hlen] at k1
      go_upto_region 21 with (go_at_call 13; go_loud (refine k1.mono ?_; rintro e w3 ⟨vl, A3, rfl, hrl, hG3, hF3, hvl⟩))
      obtain ⟨pl, cl, rfl⟩ := own_shape hrl
      have hrl := row_base hrl hG.size
      have hr3 := row_kept hrow fun j hj => hF3.keep j (hrow.lt j hj).2 (hvA j hj)
      have hv3 : ∀ j, (Value.slice pp i cc).ownBlock = some j → ¬ A3 j := fun j hj q => (hF3.sub j q).elim (hvA j hj) (fun c => by have := (hrow.lt j hj).2; omega)
      have hb3 := hbl.trans hF3.bel
      clear k1 p0 p1 p2 y8b hG hrow hF3 hbl hvA
      have y8b := (hb3.block wz (by omega)).trans y8
      have y9b := (hb3.block (wz + 1) (by omega)).trans y9
      obtain ⟨p0, p1, p2⟩ := pl_cells (p := (a3, b3, g3)) y8b
      simp only at p0 p1 p2
      have k2 := gi_len w3 B g (2 * i) _ _ hG3 (a3, b3, g3)
      rw [d_lenp] at k2
      simp only [pK, P.hK, Option.map_none, Option.getD_none] at k2
      have kq := fun (W : World) (h : Gi W B g (2 * i) (twoG (a3, b3, g3) (a4, b4, g4) none (oF false 16 (List.range i))) A3) => gi_len W B g (2 * i) _ _ h (a4, b4, g4)
      have kk := fun (W : World) (h : Gi W B g (2 * i) (twoG (a3, b3, g3) (a4, b4, g4) none (oF false 16 (List.range i))) A3) => gi_kind W B g (2 * i) _ _ h (a3, b3, g3)
      have kd := fun (W : World) (h : Gi W B g (2 * i) (twoG (a3, b3, g3) (a4, b4, g4) none (oF false 16 (List.range i))) A3) => gdrain_any W B g (2 * i) _ _ h (by omega) (a3, b3, g3)
      have hkz : kindY (twoG (a3, b3, g3) (a4, b4, g4) none (oF false 16 (List.range i))) (a3, b3, g3) = 0 := by unfold kindY; rw [twoG_p]
      have hdz : keysY (twoG (a3, b3, g3) (a4, b4, g4) none (oF false 16 (List.range i))) (a3, b3, g3) = [] := by unfold keysY; rw [twoG_p]; rfl
      simp only [d_lenq hpq.out, oF_len, List.length_range, hkz, hdz, twoG_up, pK, P.hK, List.length_nil] at kq kk kd
      have dn : ((i : Int) == (i : Int)) = true := by simp
      go_upto_region 23 with (first
        | (go_at_call_of 15 (Value.agg #[.int .i64 a3, .int .i64 b3, .int .i64 g3]); refine k2.mono ?_; rintro e w4 ⟨rfl, hb4⟩; have hG4 := hG3.bel hb4; obtain ⟨p3, p4, p5⟩ := pl_cells (p := (a4, b4, g4)) ((hb4.block _ (heap_lt y9b)).trans y9b); obtain ⟨p0, p1, p2⟩ := pl_cells (p := (a3, b3, g3)) ((hb4.block _ (heap_lt y8b)).trans y8b); simp only at p0 p1 p2 p3 p4 p5; have kQ := kq w4 hG4)
        | (go_at_call_of 15 (Value.agg #[.int .i64 a4, .int .i64 b4, .int .i64 g4]); refine kQ.mono ?_; rintro e w5 ⟨rfl, hb5⟩; have hG5 := hG4.bel hb5; have hb45 := hb4.trans (hb5.mono hb4.size); obtain ⟨p0, p1, p2⟩ := pl_cells (p := (a3, b3, g3)) ((hb45.block _ (heap_lt y8b)).trans y8b); simp only at p0 p1 p2; have kK := kk w5 hG5)
        | (go_at_call 19; refine kK.mono ?_; rintro e w6 ⟨rfl, hb6⟩; have hG6 := hG5.bel hb6; have hb46 := hb45.trans (hb6.mono hb45.size); obtain ⟨p0, p1, p2⟩ := pl_cells (p := (a3, b3, g3)) ((hb46.block _ (heap_lt y8b)).trans y8b); simp only at p0 p1 p2; have kD := kd w6 hG6)
        | (go_at_call 13; go_loud (refine kD.mono ?_; rintro e w7 ⟨vz, A7, rfl, hrz, hG7, hF7, hvz⟩; obtain ⟨pz, cz, rfl⟩ := own_shape hrz)))
      have hF37 : FG B A3 A7 w3 w7 := (FG.of hb46 hG3.size).trans hF7
      have hrl7 := row_kept hrl fun j hj => hF37.keep j (hrl.lt j hj).2 (hvl j hj)
      have hr7 := row_kept hr3 fun j hj => hF37.keep j (hr3.lt j hj).2 (hv3 j hj)
      have hvl7 : ∀ j, (Value.slice pl i cl).ownBlock = some j → ¬ A7 j := fun j hj q => (hF37.sub j q).elim (hvl j hj) (fun c => by have := (hrl.lt j hj).2; omega)
      have hv7 : ∀ j, (Value.slice pp i cc).ownBlock = some j → ¬ A7 j := fun j hj q => (hF37.sub j q).elim (hv3 j hj) (fun c => by have := (hr3.lt j hj).2; omega)
      have hb7 := hb3.trans hF37.bel
      clear k2 kq kk kd kQ kK kD p0 p1 p2 p3 p4 p5 y8b y9b hG3 hG4 hG5 hG6 hF7 hF37 hb3 hb4 hb5 hb6 hb45 hb46 hr3 hrl hv3 hvl hrz hvz hkz hdz dn
      rw [show (none : At1) = oF false 8 ((ixF i a2).take 0) from rfl] at hG7
      replace hv0 := trivial
      replace hlen : Hid _ := hlen
      go_wp2
      go_loopw [18] (fun n18 wx => ∃ (k : Nat) (A : Nat → Prop), n18 = .int .i64 k ∧ k ≤ i ∧ Gi wx B g (2 * i + k) (twoG (a3, b3, g3) (a4, b4, g4) (oF false 8 ((ixF i a2).take k)) (oF false 16 (List.range i))) A ∧ wx.ownsRow B 31 2 (.slice pl i cl) i (hCells (keysF (ixF i a2))) ∧ wx.ownsRow B 31 2 (.slice pp i cc) i (hCells (keysF (ixF i a2))) ∧ (∀ j, (Value.slice pl i cl).ownBlock = some j → ¬ A j) ∧ (∀ j, (Value.slice pp i cc).ownBlock = some j → ¬ A j) ∧ Below B w2 wx) (fun n18 _ => i - (valOf n18).toNat)
      case atStart => exact ⟨0, A7, rfl, by omega, hG7, hrl7, hr7, hvl7, hv7, hb7⟩
      case round =>
        clear hG7 hrl7 hr7 hvl7 hv7 hb7
        obtain ⟨k, A, rfl, hk, hG, hrl, hr, hvl, hv, hbl⟩ := hrel
        have y8b := (hbl.block wz (by omega)).trans y8
        have y9b := (hbl.block (wz + 1) (by omega)).trans y9
        by_cases hkn : k < i
        · have d2 : decide ((k : Int) < i) = true := by simpa using hkn
          have e9 : IntKind.i64.wrap ((k : Int) + 1) = (k : Int) + 1 := IntWalk.i64_in _ (by omega)
          have e8 : IntKind.u8.wrap (k : Int) = k := IntWalk.u8_in _ (by omega)
          obtain ⟨p3, p4, p5⟩ := pl_cells (p := (a4, b4, g4)) y9b
          simp only at p3 p4 p5
          have k2 := gi_at wr B g (2 * i + k) _ _ hG (a4, b4, g4) (by omega) k
          rw [d_at (p := (a3, b3, g3)) hpq.out (j := k) _ (by rw [List.getElem?_range hkn])] at k2
          simp only [Option.map_some, Option.isSome_some, pK, P.hK] at k2
          rw [show oV (some (fk 16 k).1) = .agg #[.int .i64 (k : Int), .int .u64 1] from rfl] at k2
          go_upto_region 27 with (go_at_call 16; go_loud (refine k2.mono ?_; rintro e w3 ⟨rfl, hb3⟩))
          have hb4 := hb3.alloc hb3.size (.cells #[.int .i64 (k : Int), .int .u64 1] 31)
          have hG4 := hG.bel hb4
          have hrl4 := row_kept hrl fun j hj => hb4.block j (hrl.lt j hj).2
          have hr4 := row_kept hr fun j hj => hb4.block j (hr.lt j hj).2
          have hbl4 := hbl.trans (hb4.mono hG.size)
          have y8b := (hb4.block _ (heap_lt y8b)).trans y8b
          have y19 := heap_alloc_new w3 (.cells #[.int .i64 (k : Int), .int .u64 1] 31)
          have n19 : ¬ A w3.heap.size := fun q => by have := ((hG.bel hb3).lt _ q).2; omega
          clear k2 p3 p4 p5 y9b hG hrl hr hbl hb3 hb4
          generalize w3.alloc (.cells #[.int .i64 (k : Int), .int .u64 1] 31) = w4 at hG4 hrl4 hr4 hbl4 y8b y19 ⊢
          generalize w3.heap.size = z19 at y19 n19 ⊢
          obtain ⟨jx, hjx⟩ : ∃ jx, (ixF i a2)[k]? = some jx := ⟨(ixF i a2)[k]'(by rw [ixF_len]; exact hkn), List.getElem?_eq_getElem _⟩
          have hkx : (keysF (ixF i a2))[k]? = some (((jx : Int), 1) : HKey) := by simp [keysF, hjx]
          obtain ⟨gl, xl, hxl, hgl, hol, l0, l1, hil⟩ := idx34 (A := keysF (ixF i a2)) (by rw [hlen.out]; exact hrl4) (j := k) (by rw [hlen.out]; exact hkn) (by rw [hlen.out]; omega)
          obtain ⟨gw, xw, hxw, hgw, how, v0, v1, hiw⟩ := idx34 (A := keysF (ixF i a2)) (by rw [hlen.out]; exact hr4) (j := k) (by rw [hlen.out]; exact hkn) (by rw [hlen.out]; omega)
          rw [hkx] at hxl hxw
          cases hxl
          cases hxw
          simp only at l0 l1 v0 v1
          rw [hlen.out] at hil hiw hol how
          have hgA : ¬ A gl := hvl gl hol
          have hwA : ¬ A gw := hv gw how
          have cs : ∀ W : World, W.heap[wz]? = w4.heap[wz]? → W.heap[z19]? = w4.heap[z19]? → W.heap[gl]? = w4.heap[gl]? → W.heap[gw]? = w4.heap[gw]? → W.cell? ⟨wz, 0, none⟩ = some (.int .i64 a3) ∧ W.cell? ⟨wz, 1, none⟩ = some (.int .i64 b3) ∧ W.cell? ⟨wz, 2, none⟩ = some (.int .i64 g3) ∧ W.cell? ⟨z19, 0, none⟩ = some (.int .i64 (k : Int)) ∧ W.cell? ⟨z19, 1, none⟩ = some (.int .u64 1) ∧ W.cell? ⟨gl, k * 2, none⟩ = some (.int .i64 (jx : Int)) ∧ W.cell? ⟨gl, k * 2 + 1, none⟩ = some (.int .u64 1) ∧ W.cell? ⟨gw, k * 2, none⟩ = some (.int .i64 (jx : Int)) ∧ W.cell? ⟨gw, k * 2 + 1, none⟩ = some (.int .u64 1) := by
            intro W a b c e
            refine ⟨?_, ?_, ?_, ?_, ?_, ?_, ?_, ?_, ?_⟩
            · rw [cell_of (a.trans y8b)]; rfl
            · rw [cell_of (a.trans y8b)]; rfl
            · rw [cell_of (a.trans y8b)]; rfl
            · rw [cell_of (b.trans y19)]; rfl
            · rw [cell_of (b.trans y19)]; rfl
            · exact (World.cell?_of_block (a := ⟨gl, k * 2, none⟩) c).trans l0
            · exact (World.cell?_of_block (a := ⟨gl, k * 2 + 1, none⟩) c).trans l1
            · exact (World.cell?_of_block (a := ⟨gw, k * 2, none⟩) e).trans v0
            · exact (World.cell?_of_block (a := ⟨gw, k * 2 + 1, none⟩) e).trans v1
          clear l0 l1 v0 v1
          obtain ⟨c0, c1, c2, c3, c4, c5, c6, c7, c8⟩ := cs _ rfl rfl rfl rfl
          replace cs : Hid _ := cs
          have q1 := neqH jx jx 1 1 w4.drew
          have q2 := fun W => neqH (k : Int) k 1 1 W
          simp only [beq_self_eq_true, Bool.and_self, Bool.not_true] at q1 q2
          have k1 := one_any k (by omega) w4.drew
          have hl8 := heap_lt y8b
          have hl19 := heap_lt y19
          have n8 : ¬ A wz := fun q => by have := (hG4.lt _ q).1; omega
          have eP := d_push (p := (a3, b3, g3)) (q := (a4, b4, g4)) (l := (ixF i a2).take k) (m := List.range i) (i := jx) (take_nd (ixF_nd i a2) hjx) false
          simp only [Bool.false_eq_true, if_false] at eP
          rw [take_one hjx] at eP
          go_cut [150] (fun n150 wx => n150 = .bool false ∧ ∃ A', Gi wx B g (2 * i + k + 1) (twoG (a3, b3, g3) (a4, b4, g4) (oF false 8 ((ixF i a2).take (k + 1))) (oF false 16 (List.range i))) A' ∧ FG B A A' w4 wx)
          case first =>
            try simp only [List.append_eq, List.cons_append, List.nil_append]
            go_region_held3 (fun w' => w'.cell? ⟨wz, 0, none⟩ = some (.int .i64 a3) ∧ w'.cell? ⟨wz, 1, none⟩ = some (.int .i64 b3) ∧ w'.cell? ⟨wz, 2, none⟩ = some (.int .i64 g3) ∧ w'.cell? ⟨z19, 0, none⟩ = some (.int .i64 (k : Int)) ∧ w'.cell? ⟨z19, 1, none⟩ = some (.int .u64 1) ∧ w'.cell? ⟨gl, k * 2, none⟩ = some (.int .i64 (jx : Int)) ∧ w'.cell? ⟨gl, k * 2 + 1, none⟩ = some (.int .u64 1) ∧ w'.cell? ⟨gw, k * 2, none⟩ = some (.int .i64 (jx : Int)) ∧ w'.cell? ⟨gw, k * 2 + 1, none⟩ = some (.int .u64 1)) ((refine ⟨?_, ?_, ?_, ?_, ?_, ?_, ?_, ?_, ?_⟩ <;> repeat (with_reducible (first | assumption | apply cell_dr)))) (first
              | (go_at_call 18; refine k1.mono ?_; rintro e w5 ⟨rfl, hb5⟩; obtain ⟨u0, u1, u2, u3, u4, u5, u6, u7, u8⟩ := cs.out w5 (hb5.block wz hl8) (hb5.block z19 hl19) (hb5.block gl hgl) (hb5.block gw hgw); have hb5' := Below.trans (Below.refl w4.heap.size w4).drew hb5; have hG6 := hG4.bel hb5'; have kP := gpush_any w5 B g (2 * i + k) _ _ hG6 (by omega) (a3, b3, g3) (fk 8 jx) false; rw [eP] at kP; simp only [pK, P.hK, hK2, fk] at kP)
              | (go_at_call 9; go_loud (refine kP.mono ?_; rintro e w6 ⟨rfl, A', hG7, hF7⟩; have s5 := hb5'.size; obtain ⟨v0, v1, v2, v3, v4, v5, v6, v7, v8⟩ := cs.out w6 ((hF7.keep wz (by omega) n8).trans (hb5'.block wz hl8)) ((hF7.keep z19 (by omega) n19).trans (hb5'.block z19 hl19)) ((hF7.keep gl (by omega) hgA).trans (hb5'.block gl hgl)) ((hF7.keep gw (by omega) hwA).trans (hb5'.block gw hgw)))))
            all_goals go_wp2_with fail
            all_goals go_meet
            all_goals exact ⟨rfl, A', hG7, (FG.of hb5' hG4.size).trans hF7⟩
          case rest =>
            obtain ⟨rfl, A', hG5, hF5⟩ := hcut
            clear c0 c1 c2 c3 c4 c5 c6 c7 c8 q1 q2 k1 eP cs
            have hrl5 := row_kept hrl4 fun j hj => hF5.keep j (hrl4.lt j hj).2 (hvl j hj)
            have hr5 := row_kept hr4 fun j hj => hF5.keep j (hr4.lt j hj).2 (hv j hj)
            have hvl5 : ∀ j, (Value.slice pl i cl).ownBlock = some j → ¬ A' j := fun j hj q => (hF5.sub j q).elim (hvl j hj) (fun c => by have := (hrl4.lt j hj).2; omega)
            have hv5 : ∀ j, (Value.slice pp i cc).ownBlock = some j → ¬ A' j := fun j hj q => (hF5.sub j q).elim (hv j hj) (fun c => by have := (hr4.lt j hj).2; omega)
            have hb5 := hbl4.trans hF5.bel
            clear hil hiw y8b y19 hrl4 hr4 hF5 hG4
            go_wp2
            refine ⟨⟨k + 1, A', by simp, by omega, hG5, hrl5, hr5, hvl5, hv5, hb5⟩, ?_⟩
            simp only [valOf]
            omega
        · have d2 : decide ((k : Int) < i) = false := by simp; omega
          obtain rfl : k = i := by omega
          obtain ⟨p0, p1, p2⟩ := pl_cells (p := (a3, b3, g3)) y8b
          simp only at p0 p1 p2
          have k2 := gi_len wr B g (2 * k + k) _ _ hG (a3, b3, g3)
          rw [d_lenp, oF_len, List.length_take, ixF_len, Nat.min_self] at k2
          simp only [pK, P.hK] at k2
          have dn : ((k : Int) == (k : Int)) = true := by simp
          have hend : Below w.heap.size w wr := by rw [hwz.out]; exact hbw2.trans (hbl.mono hwz2)
          go_wp2_with (first
            | (go_at_call 15; go_loud (refine k2.mono ?_; rintro e w3 ⟨rfl, hb3⟩))
            | (go_at_call 7; refine (kw _).mono ?_; rintro e w4 ⟨rfl, hb4⟩))
          all_goals go_returns
          have h1 := hend.trans (hb3.mono hend.size)
          exact ⟨rfl, h1.trans (hb4.mono h1.size)⟩

theorem readable : ∀ t ∈ Try.f4.params.toList, Try.prog.readableRec t = true ∧ t < Try.prog.types.size := by
  rw [Try.params4]
  intro t ht
  simp at ht
  rcases ht with rfl | rfl | rfl | rfl | rfl
  all_goals exact ⟨by kernel_rfl, of_decide_eq_true (by kernel_rfl)⟩
set_option maxRecDepth 100000 in
theorem lifted (os : Os) (started : os.Started) (H : Type) (enc : TypeId × Value → H) :
    ReturnsInHanded {} Try.checked os 4 .any (Rows.graphDrainsSpec.pre6 enc Try.prog Try.f4 Rows.graphDrainsRow.domain false) (Rows.graphDrainsSpec.post enc Try.prog Try.f4 false true false false) := by
  refine returnsInHanded_of_change (C := Try.checked) own started (by kernel_rfl) Try.func4
    (ChangeSpec.witness6 (enc := enc) (C := Try.checked) false ⟨#[], #[.int .u8 0, .bool false, .bool false, .agg #[.int .i64 0, .int .i64 0, .int .i64 0], .agg #[.int .i64 0, .int .i64 0, .int .i64 0]], []⟩ 8 (by kernel_rfl) (by kernel_rfl) (by kernel_rfl) (by kernel_rfl)) ?_
  intro W base args ds gs before hval0 hW hcnd _
  have hval : ∀ (j : Nat) t v, Try.f4.params[j]? = some t → args[j]? = some v → Value.okWide Try.prog W .any base t v := hval0
  have hW' := hW
  obtain ⟨p, q, hA0, hV, rfl, hfz, hnd⟩ := hW
  have hA : DataW.TrodAll enc Try.prog W 0 (fun _ => true) true Try.f4.params.toList args.toList ds p := hA0
  rw [Try.params4] at hA hval
  obtain ⟨v0, vs0, d0, ds0, p0, q0, hargs, rfl, rfl, h0, r0⟩ := trodAll_cons hA
  obtain ⟨v1, vs1, d1, ds1, p1, q1, rfl, rfl, rfl, h1, r1⟩ := trodAll_cons r0
  obtain ⟨v2, vs2, d2, ds2, p2, q2, rfl, rfl, rfl, h2, r2⟩ := trodAll_cons r1
  obtain ⟨v3, vs3, d3, ds3, p3, q3, rfl, rfl, rfl, h3, r3⟩ := trodAll_cons r2
  obtain ⟨v4, vs4, d4, ds4, p4, q4, rfl, rfl, rfl, h4, r4⟩ := trodAll_cons r3
  obtain ⟨rfl, rfl, rfl⟩ := trodAll_nil r4
  obtain rfl : args = #[v0, v1, v2, v3, v4] := by cases args; simp_all
  obtain ⟨rfl, rfl⟩ := trodVars_none hV
  obtain ⟨a0, rfl, rfl, rfl, w0⟩ := open_int Try.underlying5 (hval 0 5 v0 rfl rfl) h0
  obtain ⟨a1, rfl, rfl, rfl⟩ := open_bool Try.underlying4 (hval 1 4 v1 rfl rfl) h1
  obtain ⟨a2, rfl, rfl, rfl⟩ := open_bool Try.underlying4 (hval 2 4 v2 rfl rfl) h2
  obtain ⟨a3, b3, g3, rfl⟩ := open_plv (hval 3 28 v3 rfl rfl) h3
  obtain ⟨a4, b4, g4, rfl⟩ := open_plv (hval 4 28 v4 rfl rfl) h4
  clear hA0 hval0
  refine (walk a0 a1 a2 a3 b3 g3 a4 b4 g4 W w0    ).mono fun e W' ⟨he, hg⟩ => ?_
  subst he
  exact ⟨_, rfl, post_bel readable hW' rfl (fun _ _ _ => (trodAll_cons_mk (shut_bool Try.underlying4 _) trodAll_mk0)) rfl (fun _ => rfl)
    hg (ok_one (by kernel_rfl) rfl (okWide_bool_mk Try.underlying4 _))⟩

theorem over : Rows.graphDrainsRow.holds Try.pinned (OpenSpec.ofChange Rows.graphDrainsSpec) :=
  OpenClaim.holds_of_wide 4 Try.f4 rfl rfl rfl rfl rfl rfl rfl ⟨rfl, rfl, rfl, rfl, rfl⟩ rfl rfl rfl rfl rfl (by kernel_rfl) Try.func4 (by kernel_rfl)
    (of_decide_eq_true (by kernel_rfl)) (by unfold Func.isWrapper; first | (rw [if_pos (by decide +kernel)]; kernel_rfl) | (rw [if_neg (by decide +kernel)]; exact ⟨rfl, rfl⟩))
    (fun os started H enc _ => lifted os started H enc)

theorem proved : Rows.GraphDrainsSaid :=
  over
end Go.Proofs.Ythgpbbpmfpfjnaa.graphDrains
namespace Go.Proofs.Ythgpbbpmfpfjnaa
theorem graphDrains_holds : Rows.GraphDrainsSaid :=
  graphDrains.proved
#print axioms graphDrains_holds
end Go.Proofs.Ythgpbbpmfpfjnaa
