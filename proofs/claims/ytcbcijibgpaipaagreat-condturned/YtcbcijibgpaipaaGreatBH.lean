/- Towards the statements of package bound (layer 5): three rounds, as the program does them. -/
import Derived.Test.YtcbcijibgpaipaaGreatBG
namespace Go.Proofs.YtcbcijibgpaipaaGreat
open Go.ChangeShapes Go.WideShapes Go.ChangeAt Go.RowKit
open Tn (iv)
set_option linter.unusedVariables false
set_option maxRecDepth 20000

theorem nothing_any (w : World) : Calls Tryz.prog 47 #[] w fun e w' => e = .returned (.agg #[.int .u64 0, .int .u64 0, .int .u64 1, .int .u64 0, .int .i64 1, .int .i64 0, .int .u64 1, .int .u64 0, .int .i64 1, .int .i64 0]) ∧ w' = w.alloc (.cells #[.int .u64 0, .int .u64 0, .int .u64 1, .int .u64 0, .int .i64 1, .int .i64 0, .int .u64 1, .int .u64 0, .int .i64 1, .int .i64 0] 30) := by
  go_enter Tryz.func47, Tryz.ntmps47
  go_wp2
  go_returns
  exact ⟨rfl, rfl⟩
theorem nothing_gr (w : World) : Calls Tryz.prog 47 #[] w fun e w' => e = .returned (.agg #[.int .u64 0, .int .u64 0, .int .u64 1, .int .u64 0, .int .i64 1, .int .i64 0, .int .u64 1, .int .u64 0, .int .i64 1, .int .i64 0]) ∧ Gr w w' := by
  refine (nothing_any w).mono ?_
  rintro e w' ⟨rfl, hw⟩
  rw [hw]
  exact ⟨rfl, by go_grown, by go_grown⟩
theorem half_gr (w : World) : Calls Tryz.prog 44 #[] w fun e w' => e = .returned (.agg #[.int .u64 0, .int .u64 4294967295]) ∧ Gr w w' := by
  refine (half_any w).mono ?_
  rintro e w' ⟨rfl, hw⟩
  rw [hw]
  exact ⟨rfl, by go_grown, by go_grown⟩
theorem shalf_gr (w : World) : Calls Tryz.prog 46 #[] w fun e w' => e = .returned (.agg #[.int .i64 (-2147483648), .int .i64 2147483647]) ∧ Gr w w' := by
  refine (shalf_any w).mono ?_
  rintro e w' ⟨rfl, hw⟩
  rw [hw]
  exact ⟨rfl, by go_grown, by go_grown⟩
theorem steps_any (w : World) : Calls Tryz.prog 48 #[] w fun e w' => e = .returned (.slice (some ⟨w.heap.size, 0, none⟩) 11 11) ∧ w' = w.alloc (.cells #[.func (.func 92) #[] #[], .func (.func 95) #[] #[], .func (.func 98) #[] #[], .func (.func 100) #[] #[], .func (.func 102) #[] #[], .func (.func 105) #[] #[], .func (.func 106) #[] #[], .func (.func 107) #[] #[], .func (.func 109) #[] #[], .func (.func 111) #[] #[], .func (.func 113) #[] #[]] 77) := by
  go_enter Tryz.func48, Tryz.ntmps48
  go_wp2
  go_ret
  exact ⟨rfl, rfl⟩
theorem None_q (tv tm : BitVec 64) (ul uh sl sh wl wh vl vh : Int) (q : Bool) (h : nn ul uh sl sh wl wh vl vh = q) (w : World) : Calls Tryz.prog 15 #[.agg #[.int .u64 (iv tv), .int .u64 (iv tm), .int .u64 ul, .int .u64 uh, .int .i64 sl, .int .i64 sh, .int .u64 wl, .int .u64 wh, .int .i64 vl, .int .i64 vh]] w fun e w' => e = .returned (.bool q) ∧ Gr w w' := h ▸ None_any tv tm ul uh sl sh wl wh vl vh w
theorem may_q (v m : BitVec 64) (q : Bool) (h : (v &&& m == 0#64) = q) (w : World) : Calls Tryz.prog 42 #[.agg #[.int .u64 (iv v), .int .u64 (iv m)]] w fun e w' => e = .returned (.bool q) ∧ Gr w w' := h ▸ cv (Tn.may_gr v m w)
theorem within_q (al ah bl bh : Int) (q : Bool) (h : ((decide (bl ≤ al) && decide (al ≤ bh)) && (decide (bl ≤ ah) && decide (ah ≤ bh))) = q) (w : World) : Calls Tryz.prog 45 #[.agg #[.int .i64 al, .int .i64 ah], .agg #[.int .i64 bl, .int .i64 bh]] w fun e w' => e = .returned (.bool q) ∧ Gr w w' := h ▸ within_any al ah bl bh w
theorem spanIn_q (al ah bl bh : Int) (q : Bool) (h : (decide (ah < al) || ((decide (bl ≤ al) && decide (al ≤ bh)) && (decide (bl ≤ ah) && decide (ah ≤ bh)))) = q) (w : World) : Calls Tryz.prog 43 #[.agg #[.int .u64 al, .int .u64 ah], .agg #[.int .u64 bl, .int .u64 bh]] w fun e w' => e = .returned (.bool q) ∧ Gr w w' := h ▸ spanIn_any al ah bl bh w
set_option maxHeartbeats 2000000 in
theorem sync_b0 (b : Bd) (h0 : nn b.ul b.uh b.sl b.sh b.wl b.wh b.vl b.vh = true) (w : World) : Calls Tryz.prog 11 #[.agg #[.int .u64 (iv b.tv), .int .u64 (iv b.tm), .int .u64 b.ul, .int .u64 b.uh, .int .i64 b.sl, .int .i64 b.sh, .int .u64 b.wl, .int .u64 b.wh, .int .i64 b.vl, .int .i64 b.vh]] w fun e w' => e = .returned (.agg #[.int .u64 0, .int .u64 0, .int .u64 1, .int .u64 0, .int .i64 1, .int .i64 0, .int .u64 1, .int .u64 0, .int .i64 1, .int .i64 0]) ∧ Gr w w' := by
  have HA : Hid (AtA ((w.alloc (.cells #[.int .u64 (iv b.tv), .int .u64 (iv b.tm), .int .u64 b.ul, .int .u64 b.uh, .int .i64 b.sl, .int .i64 b.sh, .int .u64 b.wl, .int .u64 b.wh, .int .i64 b.vl, .int .i64 b.vh] 30)).alloc (.cells #[.int .u64 0, .int .u64 0, .int .u64 0, .int .u64 0, .int .i64 0, .int .i64 0, .int .u64 0, .int .u64 0, .int .i64 0, .int .i64 0] 30)) w.heap.size (cB b) 30) := (AtA.newb _ rfl _ _).alloc _
  have HR : Hid (AtA ((w.alloc (.cells #[.int .u64 (iv b.tv), .int .u64 (iv b.tm), .int .u64 b.ul, .int .u64 b.uh, .int .i64 b.sl, .int .i64 b.sh, .int .u64 b.wl, .int .u64 b.wh, .int .i64 b.vl, .int .i64 b.vh] 30)).alloc (.cells #[.int .u64 0, .int .u64 0, .int .u64 0, .int .u64 0, .int .i64 0, .int .i64 0, .int .u64 0, .int .u64 0, .int .i64 0, .int .i64 0] 30)) (w.heap.size + 1) #[.int .u64 0, .int .u64 0, .int .u64 0, .int .u64 0, .int .i64 0, .int .i64 0, .int .u64 0, .int .u64 0, .int .i64 0, .int .i64 0] 30) := AtA.newb _ (by simp) _ _
  have HF : Hid (Gr w ((w.alloc (.cells #[.int .u64 (iv b.tv), .int .u64 (iv b.tm), .int .u64 b.ul, .int .u64 b.uh, .int .i64 b.sl, .int .i64 b.sh, .int .u64 b.wl, .int .u64 b.wh, .int .i64 b.vl, .int .i64 b.vh] 30)).alloc (.cells #[.int .u64 0, .int .u64 0, .int .u64 0, .int .u64 0, .int .i64 0, .int .i64 0, .int .u64 0, .int .u64 0, .int .i64 0, .int .i64 0] 30))) := (⟨by go_grown, by go_grown⟩ : Gr w _)
  have p0 : ∀ p : GrBy ((w.alloc (.cells #[.int .u64 (iv b.tv), .int .u64 (iv b.tm), .int .u64 b.ul, .int .u64 b.uh, .int .i64 b.sl, .int .i64 b.sh, .int .u64 b.wl, .int .u64 b.wh, .int .i64 b.vl, .int .i64 b.vh] 30)).alloc (.cells #[.int .u64 0, .int .u64 0, .int .u64 0, .int .u64 0, .int .i64 0, .int .i64 0, .int .u64 0, .int .u64 0, .int .i64 0, .int .i64 0] 30)), p.to.cell? ⟨w.heap.size, 0, none⟩ = some (.int .u64 (iv b.tv)) := fun p => by have h := (HA.out.gr p.gr).cell 0; simpa only [List.getElem?_toArray, List.getElem?_cons_zero, List.getElem?_cons_succ] using h
  have p1 : ∀ p : GrBy ((w.alloc (.cells #[.int .u64 (iv b.tv), .int .u64 (iv b.tm), .int .u64 b.ul, .int .u64 b.uh, .int .i64 b.sl, .int .i64 b.sh, .int .u64 b.wl, .int .u64 b.wh, .int .i64 b.vl, .int .i64 b.vh] 30)).alloc (.cells #[.int .u64 0, .int .u64 0, .int .u64 0, .int .u64 0, .int .i64 0, .int .i64 0, .int .u64 0, .int .u64 0, .int .i64 0, .int .i64 0] 30)), p.to.cell? ⟨w.heap.size, 1, none⟩ = some (.int .u64 (iv b.tm)) := fun p => by have h := (HA.out.gr p.gr).cell 1; simpa only [List.getElem?_toArray, List.getElem?_cons_zero, List.getElem?_cons_succ] using h
  have p2 : ∀ p : GrBy ((w.alloc (.cells #[.int .u64 (iv b.tv), .int .u64 (iv b.tm), .int .u64 b.ul, .int .u64 b.uh, .int .i64 b.sl, .int .i64 b.sh, .int .u64 b.wl, .int .u64 b.wh, .int .i64 b.vl, .int .i64 b.vh] 30)).alloc (.cells #[.int .u64 0, .int .u64 0, .int .u64 0, .int .u64 0, .int .i64 0, .int .i64 0, .int .u64 0, .int .u64 0, .int .i64 0, .int .i64 0] 30)), p.to.cell? ⟨w.heap.size, 2, none⟩ = some (.int .u64 b.ul) := fun p => by have h := (HA.out.gr p.gr).cell 2; simpa only [List.getElem?_toArray, List.getElem?_cons_zero, List.getElem?_cons_succ] using h
  have p3 : ∀ p : GrBy ((w.alloc (.cells #[.int .u64 (iv b.tv), .int .u64 (iv b.tm), .int .u64 b.ul, .int .u64 b.uh, .int .i64 b.sl, .int .i64 b.sh, .int .u64 b.wl, .int .u64 b.wh, .int .i64 b.vl, .int .i64 b.vh] 30)).alloc (.cells #[.int .u64 0, .int .u64 0, .int .u64 0, .int .u64 0, .int .i64 0, .int .i64 0, .int .u64 0, .int .u64 0, .int .i64 0, .int .i64 0] 30)), p.to.cell? ⟨w.heap.size, 3, none⟩ = some (.int .u64 b.uh) := fun p => by have h := (HA.out.gr p.gr).cell 3; simpa only [List.getElem?_toArray, List.getElem?_cons_zero, List.getElem?_cons_succ] using h
  have p4 : ∀ p : GrBy ((w.alloc (.cells #[.int .u64 (iv b.tv), .int .u64 (iv b.tm), .int .u64 b.ul, .int .u64 b.uh, .int .i64 b.sl, .int .i64 b.sh, .int .u64 b.wl, .int .u64 b.wh, .int .i64 b.vl, .int .i64 b.vh] 30)).alloc (.cells #[.int .u64 0, .int .u64 0, .int .u64 0, .int .u64 0, .int .i64 0, .int .i64 0, .int .u64 0, .int .u64 0, .int .i64 0, .int .i64 0] 30)), p.to.cell? ⟨w.heap.size, 4, none⟩ = some (.int .i64 b.sl) := fun p => by have h := (HA.out.gr p.gr).cell 4; simpa only [List.getElem?_toArray, List.getElem?_cons_zero, List.getElem?_cons_succ] using h
  have p5 : ∀ p : GrBy ((w.alloc (.cells #[.int .u64 (iv b.tv), .int .u64 (iv b.tm), .int .u64 b.ul, .int .u64 b.uh, .int .i64 b.sl, .int .i64 b.sh, .int .u64 b.wl, .int .u64 b.wh, .int .i64 b.vl, .int .i64 b.vh] 30)).alloc (.cells #[.int .u64 0, .int .u64 0, .int .u64 0, .int .u64 0, .int .i64 0, .int .i64 0, .int .u64 0, .int .u64 0, .int .i64 0, .int .i64 0] 30)), p.to.cell? ⟨w.heap.size, 5, none⟩ = some (.int .i64 b.sh) := fun p => by have h := (HA.out.gr p.gr).cell 5; simpa only [List.getElem?_toArray, List.getElem?_cons_zero, List.getElem?_cons_succ] using h
  have p6 : ∀ p : GrBy ((w.alloc (.cells #[.int .u64 (iv b.tv), .int .u64 (iv b.tm), .int .u64 b.ul, .int .u64 b.uh, .int .i64 b.sl, .int .i64 b.sh, .int .u64 b.wl, .int .u64 b.wh, .int .i64 b.vl, .int .i64 b.vh] 30)).alloc (.cells #[.int .u64 0, .int .u64 0, .int .u64 0, .int .u64 0, .int .i64 0, .int .i64 0, .int .u64 0, .int .u64 0, .int .i64 0, .int .i64 0] 30)), p.to.cell? ⟨w.heap.size, 6, none⟩ = some (.int .u64 b.wl) := fun p => by have h := (HA.out.gr p.gr).cell 6; simpa only [List.getElem?_toArray, List.getElem?_cons_zero, List.getElem?_cons_succ] using h
  have p7 : ∀ p : GrBy ((w.alloc (.cells #[.int .u64 (iv b.tv), .int .u64 (iv b.tm), .int .u64 b.ul, .int .u64 b.uh, .int .i64 b.sl, .int .i64 b.sh, .int .u64 b.wl, .int .u64 b.wh, .int .i64 b.vl, .int .i64 b.vh] 30)).alloc (.cells #[.int .u64 0, .int .u64 0, .int .u64 0, .int .u64 0, .int .i64 0, .int .i64 0, .int .u64 0, .int .u64 0, .int .i64 0, .int .i64 0] 30)), p.to.cell? ⟨w.heap.size, 7, none⟩ = some (.int .u64 b.wh) := fun p => by have h := (HA.out.gr p.gr).cell 7; simpa only [List.getElem?_toArray, List.getElem?_cons_zero, List.getElem?_cons_succ] using h
  have p8 : ∀ p : GrBy ((w.alloc (.cells #[.int .u64 (iv b.tv), .int .u64 (iv b.tm), .int .u64 b.ul, .int .u64 b.uh, .int .i64 b.sl, .int .i64 b.sh, .int .u64 b.wl, .int .u64 b.wh, .int .i64 b.vl, .int .i64 b.vh] 30)).alloc (.cells #[.int .u64 0, .int .u64 0, .int .u64 0, .int .u64 0, .int .i64 0, .int .i64 0, .int .u64 0, .int .u64 0, .int .i64 0, .int .i64 0] 30)), p.to.cell? ⟨w.heap.size, 8, none⟩ = some (.int .i64 b.vl) := fun p => by have h := (HA.out.gr p.gr).cell 8; simpa only [List.getElem?_toArray, List.getElem?_cons_zero, List.getElem?_cons_succ] using h
  have p9 : ∀ p : GrBy ((w.alloc (.cells #[.int .u64 (iv b.tv), .int .u64 (iv b.tm), .int .u64 b.ul, .int .u64 b.uh, .int .i64 b.sl, .int .i64 b.sh, .int .u64 b.wl, .int .u64 b.wh, .int .i64 b.vl, .int .i64 b.vh] 30)).alloc (.cells #[.int .u64 0, .int .u64 0, .int .u64 0, .int .u64 0, .int .i64 0, .int .i64 0, .int .u64 0, .int .u64 0, .int .i64 0, .int .i64 0] 30)), p.to.cell? ⟨w.heap.size, 9, none⟩ = some (.int .i64 b.vh) := fun p => by have h := (HA.out.gr p.gr).cell 9; simpa only [List.getElem?_toArray, List.getElem?_cons_zero, List.getElem?_cons_succ] using h
  have hne : Nonempty (GrBy ((w.alloc (.cells #[.int .u64 (iv b.tv), .int .u64 (iv b.tm), .int .u64 b.ul, .int .u64 b.uh, .int .i64 b.sl, .int .i64 b.sh, .int .u64 b.wl, .int .u64 b.wh, .int .i64 b.vl, .int .i64 b.vh] 30)).alloc (.cells #[.int .u64 0, .int .u64 0, .int .u64 0, .int .u64 0, .int .i64 0, .int .i64 0, .int .u64 0, .int .u64 0, .int .i64 0, .int .i64 0] 30))) := ⟨⟨_, Gr.refl _⟩⟩
  go_enter Tryz.func11, Tryz.ntmps11
  go_wp2_with fail
  refine wp_region_gr (by kernel_rfl) (by kernel_rfl) ?_
  (try simp only [List.append_eq, List.cons_append, List.nil_append])
  repeat (first
    | go_big_quiet_skip
    | (go_big_quiet_want; go_big_quiet_op; first
      | go_big_quiet_on
      | (apply Exists.intro
         refine ⟨fun p => ?_, ?_⟩
         · first
             | (go_at_call 15; exact calls_gr (None_q _ _ _ _ _ _ _ _ _ _ _ (by with_reducible assumption) _))
             | (go_at_call 42; exact calls_gr (may_q _ _ _ (by with_reducible assumption) _))
             | (go_at_call 44; exact calls_gr (half_gr _))
             | (go_at_call 43; exact calls_gr (spanIn_q _ _ _ _ _ (by with_reducible assumption) _))
             | (go_at_call 46; exact calls_gr (shalf_gr _))
             | (go_at_call 45; exact calls_gr (within_q _ _ _ _ _ (by with_reducible assumption) _))
         go_big_quiet_on)))
  refine wpQuiet_nil ?_
  intro _ hw'
  obtain ⟨q, rfl⟩ := hw'
  clear p0 p1 p2 p3 p4 p5 p6 p7 p8 p9
  go_wp2_with (first
    | (go_at_call 47; refine (nothing_gr _).mono ?_; rintro e w1 ⟨rfl, hg⟩; have hr : Hid (AtA w1 (w.heap.size + 1) _ 30) := (HR.out.gr q.gr).gr hg; have hG : Hid (Gr w w1) := (HF.out.trans q.gr).trans hg; clear hg
       have f0 := (hr.out).f 0
       have f1 := (hr.out).f 1
       have f2 := (hr.out).f 2
       have f3 := (hr.out).f 3
       have f4 := (hr.out).f 4
       have f5 := (hr.out).f 5
       have f6 := (hr.out).f 6
       have f7 := (hr.out).f 7
       have f8 := (hr.out).f 8
       have f9 := (hr.out).f 9
       have d0 := (hr.out).cell 0
       have d1 := (hr.out).cell 1
       have d2 := (hr.out).cell 2
       have d3 := (hr.out).cell 3
       have d4 := (hr.out).cell 4
       have d5 := (hr.out).cell 5
       have d6 := (hr.out).cell 6
       have d7 := (hr.out).cell 7
       have d8 := (hr.out).cell 8
       have d9 := (hr.out).cell 9
       simp only [List.getElem?_toArray, List.getElem?_cons_zero, List.getElem?_cons_succ] at d0 d1 d2 d3 d4 d5 d6 d7 d8 d9
       have hz := (((((((((((hr.out).st 0 (.int .u64 0)).st 1 (.int .u64 0)).st 2 (.int .u64 1)).st 3 (.int .u64 0)).st 4 (.int .i64 1)).st 5 (.int .i64 0)).st 6 (.int .u64 1)).st 7 (.int .u64 0)).st 8 (.int .i64 1)).st 9 (.int .i64 0))
       simp only [zs, z0, z1] at hz
       have e0 := hz.cell 0
       have e1 := hz.cell 1
       have e2 := hz.cell 2
       have e3 := hz.cell 3
       have e4 := hz.cell 4
       have e5 := hz.cell 5
       have e6 := hz.cell 6
       have e7 := hz.cell 7
       have e8 := hz.cell 8
       have e9 := hz.cell 9
       simp only [List.getElem?_toArray, List.getElem?_cons_zero, List.getElem?_cons_succ] at e0 e1 e2 e3 e4 e5 e6 e7 e8 e9
       clear hz
))
  refine bodyPost_ret (by simp [results, Tryz.results11, go_sem, e0, e1, e2, e3, e4, e5, e6, e7, e8, e9]; try rfl) rfl ?_
  exact ⟨rfl, ((((((((((hG.out.set (by omega) _).set (by omega) _).set (by omega) _).set (by omega) _).set (by omega) _).set (by omega) _).set (by omega) _).set (by omega) _).set (by omega) _).set (by omega) _)⟩
set_option maxHeartbeats 2000000 in
theorem sync_b1 (b : Bd) (h0 : nn b.ul b.uh b.sl b.sh b.wl b.wh b.vl b.vh = false) (h1 : (b.tv &&& b.tm == 0#64) = false) (w : World) : Calls Tryz.prog 11 #[.agg #[.int .u64 (iv b.tv), .int .u64 (iv b.tm), .int .u64 b.ul, .int .u64 b.uh, .int .i64 b.sl, .int .i64 b.sh, .int .u64 b.wl, .int .u64 b.wh, .int .i64 b.vl, .int .i64 b.vh]] w fun e w' => e = .returned (.agg #[.int .u64 0, .int .u64 0, .int .u64 1, .int .u64 0, .int .i64 1, .int .i64 0, .int .u64 1, .int .u64 0, .int .i64 1, .int .i64 0]) ∧ Gr w w' := by
  have HA : Hid (AtA ((w.alloc (.cells #[.int .u64 (iv b.tv), .int .u64 (iv b.tm), .int .u64 b.ul, .int .u64 b.uh, .int .i64 b.sl, .int .i64 b.sh, .int .u64 b.wl, .int .u64 b.wh, .int .i64 b.vl, .int .i64 b.vh] 30)).alloc (.cells #[.int .u64 0, .int .u64 0, .int .u64 0, .int .u64 0, .int .i64 0, .int .i64 0, .int .u64 0, .int .u64 0, .int .i64 0, .int .i64 0] 30)) w.heap.size (cB b) 30) := (AtA.newb _ rfl _ _).alloc _
  have HR : Hid (AtA ((w.alloc (.cells #[.int .u64 (iv b.tv), .int .u64 (iv b.tm), .int .u64 b.ul, .int .u64 b.uh, .int .i64 b.sl, .int .i64 b.sh, .int .u64 b.wl, .int .u64 b.wh, .int .i64 b.vl, .int .i64 b.vh] 30)).alloc (.cells #[.int .u64 0, .int .u64 0, .int .u64 0, .int .u64 0, .int .i64 0, .int .i64 0, .int .u64 0, .int .u64 0, .int .i64 0, .int .i64 0] 30)) (w.heap.size + 1) #[.int .u64 0, .int .u64 0, .int .u64 0, .int .u64 0, .int .i64 0, .int .i64 0, .int .u64 0, .int .u64 0, .int .i64 0, .int .i64 0] 30) := AtA.newb _ (by simp) _ _
  have HF : Hid (Gr w ((w.alloc (.cells #[.int .u64 (iv b.tv), .int .u64 (iv b.tm), .int .u64 b.ul, .int .u64 b.uh, .int .i64 b.sl, .int .i64 b.sh, .int .u64 b.wl, .int .u64 b.wh, .int .i64 b.vl, .int .i64 b.vh] 30)).alloc (.cells #[.int .u64 0, .int .u64 0, .int .u64 0, .int .u64 0, .int .i64 0, .int .i64 0, .int .u64 0, .int .u64 0, .int .i64 0, .int .i64 0] 30))) := (⟨by go_grown, by go_grown⟩ : Gr w _)
  have p0 : ∀ p : GrBy ((w.alloc (.cells #[.int .u64 (iv b.tv), .int .u64 (iv b.tm), .int .u64 b.ul, .int .u64 b.uh, .int .i64 b.sl, .int .i64 b.sh, .int .u64 b.wl, .int .u64 b.wh, .int .i64 b.vl, .int .i64 b.vh] 30)).alloc (.cells #[.int .u64 0, .int .u64 0, .int .u64 0, .int .u64 0, .int .i64 0, .int .i64 0, .int .u64 0, .int .u64 0, .int .i64 0, .int .i64 0] 30)), p.to.cell? ⟨w.heap.size, 0, none⟩ = some (.int .u64 (iv b.tv)) := fun p => by have h := (HA.out.gr p.gr).cell 0; simpa only [List.getElem?_toArray, List.getElem?_cons_zero, List.getElem?_cons_succ] using h
  have p1 : ∀ p : GrBy ((w.alloc (.cells #[.int .u64 (iv b.tv), .int .u64 (iv b.tm), .int .u64 b.ul, .int .u64 b.uh, .int .i64 b.sl, .int .i64 b.sh, .int .u64 b.wl, .int .u64 b.wh, .int .i64 b.vl, .int .i64 b.vh] 30)).alloc (.cells #[.int .u64 0, .int .u64 0, .int .u64 0, .int .u64 0, .int .i64 0, .int .i64 0, .int .u64 0, .int .u64 0, .int .i64 0, .int .i64 0] 30)), p.to.cell? ⟨w.heap.size, 1, none⟩ = some (.int .u64 (iv b.tm)) := fun p => by have h := (HA.out.gr p.gr).cell 1; simpa only [List.getElem?_toArray, List.getElem?_cons_zero, List.getElem?_cons_succ] using h
  have p2 : ∀ p : GrBy ((w.alloc (.cells #[.int .u64 (iv b.tv), .int .u64 (iv b.tm), .int .u64 b.ul, .int .u64 b.uh, .int .i64 b.sl, .int .i64 b.sh, .int .u64 b.wl, .int .u64 b.wh, .int .i64 b.vl, .int .i64 b.vh] 30)).alloc (.cells #[.int .u64 0, .int .u64 0, .int .u64 0, .int .u64 0, .int .i64 0, .int .i64 0, .int .u64 0, .int .u64 0, .int .i64 0, .int .i64 0] 30)), p.to.cell? ⟨w.heap.size, 2, none⟩ = some (.int .u64 b.ul) := fun p => by have h := (HA.out.gr p.gr).cell 2; simpa only [List.getElem?_toArray, List.getElem?_cons_zero, List.getElem?_cons_succ] using h
  have p3 : ∀ p : GrBy ((w.alloc (.cells #[.int .u64 (iv b.tv), .int .u64 (iv b.tm), .int .u64 b.ul, .int .u64 b.uh, .int .i64 b.sl, .int .i64 b.sh, .int .u64 b.wl, .int .u64 b.wh, .int .i64 b.vl, .int .i64 b.vh] 30)).alloc (.cells #[.int .u64 0, .int .u64 0, .int .u64 0, .int .u64 0, .int .i64 0, .int .i64 0, .int .u64 0, .int .u64 0, .int .i64 0, .int .i64 0] 30)), p.to.cell? ⟨w.heap.size, 3, none⟩ = some (.int .u64 b.uh) := fun p => by have h := (HA.out.gr p.gr).cell 3; simpa only [List.getElem?_toArray, List.getElem?_cons_zero, List.getElem?_cons_succ] using h
  have p4 : ∀ p : GrBy ((w.alloc (.cells #[.int .u64 (iv b.tv), .int .u64 (iv b.tm), .int .u64 b.ul, .int .u64 b.uh, .int .i64 b.sl, .int .i64 b.sh, .int .u64 b.wl, .int .u64 b.wh, .int .i64 b.vl, .int .i64 b.vh] 30)).alloc (.cells #[.int .u64 0, .int .u64 0, .int .u64 0, .int .u64 0, .int .i64 0, .int .i64 0, .int .u64 0, .int .u64 0, .int .i64 0, .int .i64 0] 30)), p.to.cell? ⟨w.heap.size, 4, none⟩ = some (.int .i64 b.sl) := fun p => by have h := (HA.out.gr p.gr).cell 4; simpa only [List.getElem?_toArray, List.getElem?_cons_zero, List.getElem?_cons_succ] using h
  have p5 : ∀ p : GrBy ((w.alloc (.cells #[.int .u64 (iv b.tv), .int .u64 (iv b.tm), .int .u64 b.ul, .int .u64 b.uh, .int .i64 b.sl, .int .i64 b.sh, .int .u64 b.wl, .int .u64 b.wh, .int .i64 b.vl, .int .i64 b.vh] 30)).alloc (.cells #[.int .u64 0, .int .u64 0, .int .u64 0, .int .u64 0, .int .i64 0, .int .i64 0, .int .u64 0, .int .u64 0, .int .i64 0, .int .i64 0] 30)), p.to.cell? ⟨w.heap.size, 5, none⟩ = some (.int .i64 b.sh) := fun p => by have h := (HA.out.gr p.gr).cell 5; simpa only [List.getElem?_toArray, List.getElem?_cons_zero, List.getElem?_cons_succ] using h
  have p6 : ∀ p : GrBy ((w.alloc (.cells #[.int .u64 (iv b.tv), .int .u64 (iv b.tm), .int .u64 b.ul, .int .u64 b.uh, .int .i64 b.sl, .int .i64 b.sh, .int .u64 b.wl, .int .u64 b.wh, .int .i64 b.vl, .int .i64 b.vh] 30)).alloc (.cells #[.int .u64 0, .int .u64 0, .int .u64 0, .int .u64 0, .int .i64 0, .int .i64 0, .int .u64 0, .int .u64 0, .int .i64 0, .int .i64 0] 30)), p.to.cell? ⟨w.heap.size, 6, none⟩ = some (.int .u64 b.wl) := fun p => by have h := (HA.out.gr p.gr).cell 6; simpa only [List.getElem?_toArray, List.getElem?_cons_zero, List.getElem?_cons_succ] using h
  have p7 : ∀ p : GrBy ((w.alloc (.cells #[.int .u64 (iv b.tv), .int .u64 (iv b.tm), .int .u64 b.ul, .int .u64 b.uh, .int .i64 b.sl, .int .i64 b.sh, .int .u64 b.wl, .int .u64 b.wh, .int .i64 b.vl, .int .i64 b.vh] 30)).alloc (.cells #[.int .u64 0, .int .u64 0, .int .u64 0, .int .u64 0, .int .i64 0, .int .i64 0, .int .u64 0, .int .u64 0, .int .i64 0, .int .i64 0] 30)), p.to.cell? ⟨w.heap.size, 7, none⟩ = some (.int .u64 b.wh) := fun p => by have h := (HA.out.gr p.gr).cell 7; simpa only [List.getElem?_toArray, List.getElem?_cons_zero, List.getElem?_cons_succ] using h
  have p8 : ∀ p : GrBy ((w.alloc (.cells #[.int .u64 (iv b.tv), .int .u64 (iv b.tm), .int .u64 b.ul, .int .u64 b.uh, .int .i64 b.sl, .int .i64 b.sh, .int .u64 b.wl, .int .u64 b.wh, .int .i64 b.vl, .int .i64 b.vh] 30)).alloc (.cells #[.int .u64 0, .int .u64 0, .int .u64 0, .int .u64 0, .int .i64 0, .int .i64 0, .int .u64 0, .int .u64 0, .int .i64 0, .int .i64 0] 30)), p.to.cell? ⟨w.heap.size, 8, none⟩ = some (.int .i64 b.vl) := fun p => by have h := (HA.out.gr p.gr).cell 8; simpa only [List.getElem?_toArray, List.getElem?_cons_zero, List.getElem?_cons_succ] using h
  have p9 : ∀ p : GrBy ((w.alloc (.cells #[.int .u64 (iv b.tv), .int .u64 (iv b.tm), .int .u64 b.ul, .int .u64 b.uh, .int .i64 b.sl, .int .i64 b.sh, .int .u64 b.wl, .int .u64 b.wh, .int .i64 b.vl, .int .i64 b.vh] 30)).alloc (.cells #[.int .u64 0, .int .u64 0, .int .u64 0, .int .u64 0, .int .i64 0, .int .i64 0, .int .u64 0, .int .u64 0, .int .i64 0, .int .i64 0] 30)), p.to.cell? ⟨w.heap.size, 9, none⟩ = some (.int .i64 b.vh) := fun p => by have h := (HA.out.gr p.gr).cell 9; simpa only [List.getElem?_toArray, List.getElem?_cons_zero, List.getElem?_cons_succ] using h
  have hne : Nonempty (GrBy ((w.alloc (.cells #[.int .u64 (iv b.tv), .int .u64 (iv b.tm), .int .u64 b.ul, .int .u64 b.uh, .int .i64 b.sl, .int .i64 b.sh, .int .u64 b.wl, .int .u64 b.wh, .int .i64 b.vl, .int .i64 b.vh] 30)).alloc (.cells #[.int .u64 0, .int .u64 0, .int .u64 0, .int .u64 0, .int .i64 0, .int .i64 0, .int .u64 0, .int .u64 0, .int .i64 0, .int .i64 0] 30))) := ⟨⟨_, Gr.refl _⟩⟩
  go_enter Tryz.func11, Tryz.ntmps11
  go_wp2_with fail
  refine wp_region_gr (by kernel_rfl) (by kernel_rfl) ?_
  (try simp only [List.append_eq, List.cons_append, List.nil_append])
  repeat (first
    | go_big_quiet_skip
    | (go_big_quiet_want; go_big_quiet_op; first
      | go_big_quiet_on
      | (apply Exists.intro
         refine ⟨fun p => ?_, ?_⟩
         · first
             | (go_at_call 15; exact calls_gr (None_q _ _ _ _ _ _ _ _ _ _ _ (by with_reducible assumption) _))
             | (go_at_call 42; exact calls_gr (may_q _ _ _ (by with_reducible assumption) _))
             | (go_at_call 44; exact calls_gr (half_gr _))
             | (go_at_call 43; exact calls_gr (spanIn_q _ _ _ _ _ (by with_reducible assumption) _))
             | (go_at_call 46; exact calls_gr (shalf_gr _))
             | (go_at_call 45; exact calls_gr (within_q _ _ _ _ _ (by with_reducible assumption) _))
         go_big_quiet_on)))
  refine wpQuiet_nil ?_
  intro _ hw'
  obtain ⟨q, rfl⟩ := hw'
  clear p0 p1 p2 p3 p4 p5 p6 p7 p8 p9
  go_wp2_with (first
    | (go_at_call 47; refine (nothing_gr _).mono ?_; rintro e w1 ⟨rfl, hg⟩; have hr : Hid (AtA w1 (w.heap.size + 1) _ 30) := (HR.out.gr q.gr).gr hg; have hG : Hid (Gr w w1) := (HF.out.trans q.gr).trans hg; clear hg
       have f0 := (hr.out).f 0
       have f1 := (hr.out).f 1
       have f2 := (hr.out).f 2
       have f3 := (hr.out).f 3
       have f4 := (hr.out).f 4
       have f5 := (hr.out).f 5
       have f6 := (hr.out).f 6
       have f7 := (hr.out).f 7
       have f8 := (hr.out).f 8
       have f9 := (hr.out).f 9
       have d0 := (hr.out).cell 0
       have d1 := (hr.out).cell 1
       have d2 := (hr.out).cell 2
       have d3 := (hr.out).cell 3
       have d4 := (hr.out).cell 4
       have d5 := (hr.out).cell 5
       have d6 := (hr.out).cell 6
       have d7 := (hr.out).cell 7
       have d8 := (hr.out).cell 8
       have d9 := (hr.out).cell 9
       simp only [List.getElem?_toArray, List.getElem?_cons_zero, List.getElem?_cons_succ] at d0 d1 d2 d3 d4 d5 d6 d7 d8 d9
       have hz := (((((((((((hr.out).st 0 (.int .u64 0)).st 1 (.int .u64 0)).st 2 (.int .u64 1)).st 3 (.int .u64 0)).st 4 (.int .i64 1)).st 5 (.int .i64 0)).st 6 (.int .u64 1)).st 7 (.int .u64 0)).st 8 (.int .i64 1)).st 9 (.int .i64 0))
       simp only [zs, z0, z1] at hz
       have e0 := hz.cell 0
       have e1 := hz.cell 1
       have e2 := hz.cell 2
       have e3 := hz.cell 3
       have e4 := hz.cell 4
       have e5 := hz.cell 5
       have e6 := hz.cell 6
       have e7 := hz.cell 7
       have e8 := hz.cell 8
       have e9 := hz.cell 9
       simp only [List.getElem?_toArray, List.getElem?_cons_zero, List.getElem?_cons_succ] at e0 e1 e2 e3 e4 e5 e6 e7 e8 e9
       clear hz
))
  refine bodyPost_ret (by simp [results, Tryz.results11, go_sem, e0, e1, e2, e3, e4, e5, e6, e7, e8, e9]; try rfl) rfl ?_
  exact ⟨rfl, ((((((((((hG.out.set (by omega) _).set (by omega) _).set (by omega) _).set (by omega) _).set (by omega) _).set (by omega) _).set (by omega) _).set (by omega) _).set (by omega) _).set (by omega) _)⟩
set_option maxHeartbeats 2000000 in
theorem sync_b2 (b : Bd) (h0 : nn b.ul b.uh b.sl b.sh b.wl b.wh b.vl b.vh = false) (h1 : (b.tv &&& b.tm == 0#64) = true) (h2 : (decide (b.wh < b.wl) || ((decide (0 ≤ b.wl) && decide (b.wl ≤ 4294967295)) && (decide (0 ≤ b.wh) && decide (b.wh ≤ 4294967295)))) = false) (w : World) : Calls Tryz.prog 11 #[.agg #[.int .u64 (iv b.tv), .int .u64 (iv b.tm), .int .u64 b.ul, .int .u64 b.uh, .int .i64 b.sl, .int .i64 b.sh, .int .u64 b.wl, .int .u64 b.wh, .int .i64 b.vl, .int .i64 b.vh]] w fun e w' => e = .returned (.agg #[.int .u64 0, .int .u64 0, .int .u64 1, .int .u64 0, .int .i64 1, .int .i64 0, .int .u64 1, .int .u64 0, .int .i64 1, .int .i64 0]) ∧ Gr w w' := by
  have HA : Hid (AtA ((w.alloc (.cells #[.int .u64 (iv b.tv), .int .u64 (iv b.tm), .int .u64 b.ul, .int .u64 b.uh, .int .i64 b.sl, .int .i64 b.sh, .int .u64 b.wl, .int .u64 b.wh, .int .i64 b.vl, .int .i64 b.vh] 30)).alloc (.cells #[.int .u64 0, .int .u64 0, .int .u64 0, .int .u64 0, .int .i64 0, .int .i64 0, .int .u64 0, .int .u64 0, .int .i64 0, .int .i64 0] 30)) w.heap.size (cB b) 30) := (AtA.newb _ rfl _ _).alloc _
  have HR : Hid (AtA ((w.alloc (.cells #[.int .u64 (iv b.tv), .int .u64 (iv b.tm), .int .u64 b.ul, .int .u64 b.uh, .int .i64 b.sl, .int .i64 b.sh, .int .u64 b.wl, .int .u64 b.wh, .int .i64 b.vl, .int .i64 b.vh] 30)).alloc (.cells #[.int .u64 0, .int .u64 0, .int .u64 0, .int .u64 0, .int .i64 0, .int .i64 0, .int .u64 0, .int .u64 0, .int .i64 0, .int .i64 0] 30)) (w.heap.size + 1) #[.int .u64 0, .int .u64 0, .int .u64 0, .int .u64 0, .int .i64 0, .int .i64 0, .int .u64 0, .int .u64 0, .int .i64 0, .int .i64 0] 30) := AtA.newb _ (by simp) _ _
  have HF : Hid (Gr w ((w.alloc (.cells #[.int .u64 (iv b.tv), .int .u64 (iv b.tm), .int .u64 b.ul, .int .u64 b.uh, .int .i64 b.sl, .int .i64 b.sh, .int .u64 b.wl, .int .u64 b.wh, .int .i64 b.vl, .int .i64 b.vh] 30)).alloc (.cells #[.int .u64 0, .int .u64 0, .int .u64 0, .int .u64 0, .int .i64 0, .int .i64 0, .int .u64 0, .int .u64 0, .int .i64 0, .int .i64 0] 30))) := (⟨by go_grown, by go_grown⟩ : Gr w _)
  have p0 : ∀ p : GrBy ((w.alloc (.cells #[.int .u64 (iv b.tv), .int .u64 (iv b.tm), .int .u64 b.ul, .int .u64 b.uh, .int .i64 b.sl, .int .i64 b.sh, .int .u64 b.wl, .int .u64 b.wh, .int .i64 b.vl, .int .i64 b.vh] 30)).alloc (.cells #[.int .u64 0, .int .u64 0, .int .u64 0, .int .u64 0, .int .i64 0, .int .i64 0, .int .u64 0, .int .u64 0, .int .i64 0, .int .i64 0] 30)), p.to.cell? ⟨w.heap.size, 0, none⟩ = some (.int .u64 (iv b.tv)) := fun p => by have h := (HA.out.gr p.gr).cell 0; simpa only [List.getElem?_toArray, List.getElem?_cons_zero, List.getElem?_cons_succ] using h
  have p1 : ∀ p : GrBy ((w.alloc (.cells #[.int .u64 (iv b.tv), .int .u64 (iv b.tm), .int .u64 b.ul, .int .u64 b.uh, .int .i64 b.sl, .int .i64 b.sh, .int .u64 b.wl, .int .u64 b.wh, .int .i64 b.vl, .int .i64 b.vh] 30)).alloc (.cells #[.int .u64 0, .int .u64 0, .int .u64 0, .int .u64 0, .int .i64 0, .int .i64 0, .int .u64 0, .int .u64 0, .int .i64 0, .int .i64 0] 30)), p.to.cell? ⟨w.heap.size, 1, none⟩ = some (.int .u64 (iv b.tm)) := fun p => by have h := (HA.out.gr p.gr).cell 1; simpa only [List.getElem?_toArray, List.getElem?_cons_zero, List.getElem?_cons_succ] using h
  have p2 : ∀ p : GrBy ((w.alloc (.cells #[.int .u64 (iv b.tv), .int .u64 (iv b.tm), .int .u64 b.ul, .int .u64 b.uh, .int .i64 b.sl, .int .i64 b.sh, .int .u64 b.wl, .int .u64 b.wh, .int .i64 b.vl, .int .i64 b.vh] 30)).alloc (.cells #[.int .u64 0, .int .u64 0, .int .u64 0, .int .u64 0, .int .i64 0, .int .i64 0, .int .u64 0, .int .u64 0, .int .i64 0, .int .i64 0] 30)), p.to.cell? ⟨w.heap.size, 2, none⟩ = some (.int .u64 b.ul) := fun p => by have h := (HA.out.gr p.gr).cell 2; simpa only [List.getElem?_toArray, List.getElem?_cons_zero, List.getElem?_cons_succ] using h
  have p3 : ∀ p : GrBy ((w.alloc (.cells #[.int .u64 (iv b.tv), .int .u64 (iv b.tm), .int .u64 b.ul, .int .u64 b.uh, .int .i64 b.sl, .int .i64 b.sh, .int .u64 b.wl, .int .u64 b.wh, .int .i64 b.vl, .int .i64 b.vh] 30)).alloc (.cells #[.int .u64 0, .int .u64 0, .int .u64 0, .int .u64 0, .int .i64 0, .int .i64 0, .int .u64 0, .int .u64 0, .int .i64 0, .int .i64 0] 30)), p.to.cell? ⟨w.heap.size, 3, none⟩ = some (.int .u64 b.uh) := fun p => by have h := (HA.out.gr p.gr).cell 3; simpa only [List.getElem?_toArray, List.getElem?_cons_zero, List.getElem?_cons_succ] using h
  have p4 : ∀ p : GrBy ((w.alloc (.cells #[.int .u64 (iv b.tv), .int .u64 (iv b.tm), .int .u64 b.ul, .int .u64 b.uh, .int .i64 b.sl, .int .i64 b.sh, .int .u64 b.wl, .int .u64 b.wh, .int .i64 b.vl, .int .i64 b.vh] 30)).alloc (.cells #[.int .u64 0, .int .u64 0, .int .u64 0, .int .u64 0, .int .i64 0, .int .i64 0, .int .u64 0, .int .u64 0, .int .i64 0, .int .i64 0] 30)), p.to.cell? ⟨w.heap.size, 4, none⟩ = some (.int .i64 b.sl) := fun p => by have h := (HA.out.gr p.gr).cell 4; simpa only [List.getElem?_toArray, List.getElem?_cons_zero, List.getElem?_cons_succ] using h
  have p5 : ∀ p : GrBy ((w.alloc (.cells #[.int .u64 (iv b.tv), .int .u64 (iv b.tm), .int .u64 b.ul, .int .u64 b.uh, .int .i64 b.sl, .int .i64 b.sh, .int .u64 b.wl, .int .u64 b.wh, .int .i64 b.vl, .int .i64 b.vh] 30)).alloc (.cells #[.int .u64 0, .int .u64 0, .int .u64 0, .int .u64 0, .int .i64 0, .int .i64 0, .int .u64 0, .int .u64 0, .int .i64 0, .int .i64 0] 30)), p.to.cell? ⟨w.heap.size, 5, none⟩ = some (.int .i64 b.sh) := fun p => by have h := (HA.out.gr p.gr).cell 5; simpa only [List.getElem?_toArray, List.getElem?_cons_zero, List.getElem?_cons_succ] using h
  have p6 : ∀ p : GrBy ((w.alloc (.cells #[.int .u64 (iv b.tv), .int .u64 (iv b.tm), .int .u64 b.ul, .int .u64 b.uh, .int .i64 b.sl, .int .i64 b.sh, .int .u64 b.wl, .int .u64 b.wh, .int .i64 b.vl, .int .i64 b.vh] 30)).alloc (.cells #[.int .u64 0, .int .u64 0, .int .u64 0, .int .u64 0, .int .i64 0, .int .i64 0, .int .u64 0, .int .u64 0, .int .i64 0, .int .i64 0] 30)), p.to.cell? ⟨w.heap.size, 6, none⟩ = some (.int .u64 b.wl) := fun p => by have h := (HA.out.gr p.gr).cell 6; simpa only [List.getElem?_toArray, List.getElem?_cons_zero, List.getElem?_cons_succ] using h
  have p7 : ∀ p : GrBy ((w.alloc (.cells #[.int .u64 (iv b.tv), .int .u64 (iv b.tm), .int .u64 b.ul, .int .u64 b.uh, .int .i64 b.sl, .int .i64 b.sh, .int .u64 b.wl, .int .u64 b.wh, .int .i64 b.vl, .int .i64 b.vh] 30)).alloc (.cells #[.int .u64 0, .int .u64 0, .int .u64 0, .int .u64 0, .int .i64 0, .int .i64 0, .int .u64 0, .int .u64 0, .int .i64 0, .int .i64 0] 30)), p.to.cell? ⟨w.heap.size, 7, none⟩ = some (.int .u64 b.wh) := fun p => by have h := (HA.out.gr p.gr).cell 7; simpa only [List.getElem?_toArray, List.getElem?_cons_zero, List.getElem?_cons_succ] using h
  have p8 : ∀ p : GrBy ((w.alloc (.cells #[.int .u64 (iv b.tv), .int .u64 (iv b.tm), .int .u64 b.ul, .int .u64 b.uh, .int .i64 b.sl, .int .i64 b.sh, .int .u64 b.wl, .int .u64 b.wh, .int .i64 b.vl, .int .i64 b.vh] 30)).alloc (.cells #[.int .u64 0, .int .u64 0, .int .u64 0, .int .u64 0, .int .i64 0, .int .i64 0, .int .u64 0, .int .u64 0, .int .i64 0, .int .i64 0] 30)), p.to.cell? ⟨w.heap.size, 8, none⟩ = some (.int .i64 b.vl) := fun p => by have h := (HA.out.gr p.gr).cell 8; simpa only [List.getElem?_toArray, List.getElem?_cons_zero, List.getElem?_cons_succ] using h
  have p9 : ∀ p : GrBy ((w.alloc (.cells #[.int .u64 (iv b.tv), .int .u64 (iv b.tm), .int .u64 b.ul, .int .u64 b.uh, .int .i64 b.sl, .int .i64 b.sh, .int .u64 b.wl, .int .u64 b.wh, .int .i64 b.vl, .int .i64 b.vh] 30)).alloc (.cells #[.int .u64 0, .int .u64 0, .int .u64 0, .int .u64 0, .int .i64 0, .int .i64 0, .int .u64 0, .int .u64 0, .int .i64 0, .int .i64 0] 30)), p.to.cell? ⟨w.heap.size, 9, none⟩ = some (.int .i64 b.vh) := fun p => by have h := (HA.out.gr p.gr).cell 9; simpa only [List.getElem?_toArray, List.getElem?_cons_zero, List.getElem?_cons_succ] using h
  have hne : Nonempty (GrBy ((w.alloc (.cells #[.int .u64 (iv b.tv), .int .u64 (iv b.tm), .int .u64 b.ul, .int .u64 b.uh, .int .i64 b.sl, .int .i64 b.sh, .int .u64 b.wl, .int .u64 b.wh, .int .i64 b.vl, .int .i64 b.vh] 30)).alloc (.cells #[.int .u64 0, .int .u64 0, .int .u64 0, .int .u64 0, .int .i64 0, .int .i64 0, .int .u64 0, .int .u64 0, .int .i64 0, .int .i64 0] 30))) := ⟨⟨_, Gr.refl _⟩⟩
  go_enter Tryz.func11, Tryz.ntmps11
  go_wp2_with fail
  refine wp_region_gr (by kernel_rfl) (by kernel_rfl) ?_
  (try simp only [List.append_eq, List.cons_append, List.nil_append])
  repeat (first
    | go_big_quiet_skip
    | (go_big_quiet_want; go_big_quiet_op; first
      | go_big_quiet_on
      | (apply Exists.intro
         refine ⟨fun p => ?_, ?_⟩
         · first
             | (go_at_call 15; exact calls_gr (None_q _ _ _ _ _ _ _ _ _ _ _ (by with_reducible assumption) _))
             | (go_at_call 42; exact calls_gr (may_q _ _ _ (by with_reducible assumption) _))
             | (go_at_call 44; exact calls_gr (half_gr _))
             | (go_at_call 43; exact calls_gr (spanIn_q _ _ _ _ _ (by with_reducible assumption) _))
             | (go_at_call 46; exact calls_gr (shalf_gr _))
             | (go_at_call 45; exact calls_gr (within_q _ _ _ _ _ (by with_reducible assumption) _))
         go_big_quiet_on)))
  refine wpQuiet_nil ?_
  intro _ hw'
  obtain ⟨q, rfl⟩ := hw'
  clear p0 p1 p2 p3 p4 p5 p6 p7 p8 p9
  go_wp2_with (first
    | (go_at_call 47; refine (nothing_gr _).mono ?_; rintro e w1 ⟨rfl, hg⟩; have hr : Hid (AtA w1 (w.heap.size + 1) _ 30) := (HR.out.gr q.gr).gr hg; have hG : Hid (Gr w w1) := (HF.out.trans q.gr).trans hg; clear hg
       have f0 := (hr.out).f 0
       have f1 := (hr.out).f 1
       have f2 := (hr.out).f 2
       have f3 := (hr.out).f 3
       have f4 := (hr.out).f 4
       have f5 := (hr.out).f 5
       have f6 := (hr.out).f 6
       have f7 := (hr.out).f 7
       have f8 := (hr.out).f 8
       have f9 := (hr.out).f 9
       have d0 := (hr.out).cell 0
       have d1 := (hr.out).cell 1
       have d2 := (hr.out).cell 2
       have d3 := (hr.out).cell 3
       have d4 := (hr.out).cell 4
       have d5 := (hr.out).cell 5
       have d6 := (hr.out).cell 6
       have d7 := (hr.out).cell 7
       have d8 := (hr.out).cell 8
       have d9 := (hr.out).cell 9
       simp only [List.getElem?_toArray, List.getElem?_cons_zero, List.getElem?_cons_succ] at d0 d1 d2 d3 d4 d5 d6 d7 d8 d9
       have hz := (((((((((((hr.out).st 0 (.int .u64 0)).st 1 (.int .u64 0)).st 2 (.int .u64 1)).st 3 (.int .u64 0)).st 4 (.int .i64 1)).st 5 (.int .i64 0)).st 6 (.int .u64 1)).st 7 (.int .u64 0)).st 8 (.int .i64 1)).st 9 (.int .i64 0))
       simp only [zs, z0, z1] at hz
       have e0 := hz.cell 0
       have e1 := hz.cell 1
       have e2 := hz.cell 2
       have e3 := hz.cell 3
       have e4 := hz.cell 4
       have e5 := hz.cell 5
       have e6 := hz.cell 6
       have e7 := hz.cell 7
       have e8 := hz.cell 8
       have e9 := hz.cell 9
       simp only [List.getElem?_toArray, List.getElem?_cons_zero, List.getElem?_cons_succ] at e0 e1 e2 e3 e4 e5 e6 e7 e8 e9
       clear hz
))
  refine bodyPost_ret (by simp [results, Tryz.results11, go_sem, e0, e1, e2, e3, e4, e5, e6, e7, e8, e9]; try rfl) rfl ?_
  exact ⟨rfl, ((((((((((hG.out.set (by omega) _).set (by omega) _).set (by omega) _).set (by omega) _).set (by omega) _).set (by omega) _).set (by omega) _).set (by omega) _).set (by omega) _).set (by omega) _)⟩
set_option maxHeartbeats 2000000 in
theorem sync_b3 (b : Bd) (h0 : nn b.ul b.uh b.sl b.sh b.wl b.wh b.vl b.vh = false) (h1 : (b.tv &&& b.tm == 0#64) = true) (h2 : (decide (b.wh < b.wl) || ((decide (0 ≤ b.wl) && decide (b.wl ≤ 4294967295)) && (decide (0 ≤ b.wh) && decide (b.wh ≤ 4294967295)))) = true) (h3 : ((decide (-2147483648 ≤ b.vl) && decide (b.vl ≤ 2147483647)) && (decide (-2147483648 ≤ b.vh) && decide (b.vh ≤ 2147483647))) = false) (w : World) : Calls Tryz.prog 11 #[.agg #[.int .u64 (iv b.tv), .int .u64 (iv b.tm), .int .u64 b.ul, .int .u64 b.uh, .int .i64 b.sl, .int .i64 b.sh, .int .u64 b.wl, .int .u64 b.wh, .int .i64 b.vl, .int .i64 b.vh]] w fun e w' => e = .returned (.agg #[.int .u64 0, .int .u64 0, .int .u64 1, .int .u64 0, .int .i64 1, .int .i64 0, .int .u64 1, .int .u64 0, .int .i64 1, .int .i64 0]) ∧ Gr w w' := by
  have HA : Hid (AtA ((w.alloc (.cells #[.int .u64 (iv b.tv), .int .u64 (iv b.tm), .int .u64 b.ul, .int .u64 b.uh, .int .i64 b.sl, .int .i64 b.sh, .int .u64 b.wl, .int .u64 b.wh, .int .i64 b.vl, .int .i64 b.vh] 30)).alloc (.cells #[.int .u64 0, .int .u64 0, .int .u64 0, .int .u64 0, .int .i64 0, .int .i64 0, .int .u64 0, .int .u64 0, .int .i64 0, .int .i64 0] 30)) w.heap.size (cB b) 30) := (AtA.newb _ rfl _ _).alloc _
  have HR : Hid (AtA ((w.alloc (.cells #[.int .u64 (iv b.tv), .int .u64 (iv b.tm), .int .u64 b.ul, .int .u64 b.uh, .int .i64 b.sl, .int .i64 b.sh, .int .u64 b.wl, .int .u64 b.wh, .int .i64 b.vl, .int .i64 b.vh] 30)).alloc (.cells #[.int .u64 0, .int .u64 0, .int .u64 0, .int .u64 0, .int .i64 0, .int .i64 0, .int .u64 0, .int .u64 0, .int .i64 0, .int .i64 0] 30)) (w.heap.size + 1) #[.int .u64 0, .int .u64 0, .int .u64 0, .int .u64 0, .int .i64 0, .int .i64 0, .int .u64 0, .int .u64 0, .int .i64 0, .int .i64 0] 30) := AtA.newb _ (by simp) _ _
  have HF : Hid (Gr w ((w.alloc (.cells #[.int .u64 (iv b.tv), .int .u64 (iv b.tm), .int .u64 b.ul, .int .u64 b.uh, .int .i64 b.sl, .int .i64 b.sh, .int .u64 b.wl, .int .u64 b.wh, .int .i64 b.vl, .int .i64 b.vh] 30)).alloc (.cells #[.int .u64 0, .int .u64 0, .int .u64 0, .int .u64 0, .int .i64 0, .int .i64 0, .int .u64 0, .int .u64 0, .int .i64 0, .int .i64 0] 30))) := (⟨by go_grown, by go_grown⟩ : Gr w _)
  have p0 : ∀ p : GrBy ((w.alloc (.cells #[.int .u64 (iv b.tv), .int .u64 (iv b.tm), .int .u64 b.ul, .int .u64 b.uh, .int .i64 b.sl, .int .i64 b.sh, .int .u64 b.wl, .int .u64 b.wh, .int .i64 b.vl, .int .i64 b.vh] 30)).alloc (.cells #[.int .u64 0, .int .u64 0, .int .u64 0, .int .u64 0, .int .i64 0, .int .i64 0, .int .u64 0, .int .u64 0, .int .i64 0, .int .i64 0] 30)), p.to.cell? ⟨w.heap.size, 0, none⟩ = some (.int .u64 (iv b.tv)) := fun p => by have h := (HA.out.gr p.gr).cell 0; simpa only [List.getElem?_toArray, List.getElem?_cons_zero, List.getElem?_cons_succ] using h
  have p1 : ∀ p : GrBy ((w.alloc (.cells #[.int .u64 (iv b.tv), .int .u64 (iv b.tm), .int .u64 b.ul, .int .u64 b.uh, .int .i64 b.sl, .int .i64 b.sh, .int .u64 b.wl, .int .u64 b.wh, .int .i64 b.vl, .int .i64 b.vh] 30)).alloc (.cells #[.int .u64 0, .int .u64 0, .int .u64 0, .int .u64 0, .int .i64 0, .int .i64 0, .int .u64 0, .int .u64 0, .int .i64 0, .int .i64 0] 30)), p.to.cell? ⟨w.heap.size, 1, none⟩ = some (.int .u64 (iv b.tm)) := fun p => by have h := (HA.out.gr p.gr).cell 1; simpa only [List.getElem?_toArray, List.getElem?_cons_zero, List.getElem?_cons_succ] using h
  have p2 : ∀ p : GrBy ((w.alloc (.cells #[.int .u64 (iv b.tv), .int .u64 (iv b.tm), .int .u64 b.ul, .int .u64 b.uh, .int .i64 b.sl, .int .i64 b.sh, .int .u64 b.wl, .int .u64 b.wh, .int .i64 b.vl, .int .i64 b.vh] 30)).alloc (.cells #[.int .u64 0, .int .u64 0, .int .u64 0, .int .u64 0, .int .i64 0, .int .i64 0, .int .u64 0, .int .u64 0, .int .i64 0, .int .i64 0] 30)), p.to.cell? ⟨w.heap.size, 2, none⟩ = some (.int .u64 b.ul) := fun p => by have h := (HA.out.gr p.gr).cell 2; simpa only [List.getElem?_toArray, List.getElem?_cons_zero, List.getElem?_cons_succ] using h
  have p3 : ∀ p : GrBy ((w.alloc (.cells #[.int .u64 (iv b.tv), .int .u64 (iv b.tm), .int .u64 b.ul, .int .u64 b.uh, .int .i64 b.sl, .int .i64 b.sh, .int .u64 b.wl, .int .u64 b.wh, .int .i64 b.vl, .int .i64 b.vh] 30)).alloc (.cells #[.int .u64 0, .int .u64 0, .int .u64 0, .int .u64 0, .int .i64 0, .int .i64 0, .int .u64 0, .int .u64 0, .int .i64 0, .int .i64 0] 30)), p.to.cell? ⟨w.heap.size, 3, none⟩ = some (.int .u64 b.uh) := fun p => by have h := (HA.out.gr p.gr).cell 3; simpa only [List.getElem?_toArray, List.getElem?_cons_zero, List.getElem?_cons_succ] using h
  have p4 : ∀ p : GrBy ((w.alloc (.cells #[.int .u64 (iv b.tv), .int .u64 (iv b.tm), .int .u64 b.ul, .int .u64 b.uh, .int .i64 b.sl, .int .i64 b.sh, .int .u64 b.wl, .int .u64 b.wh, .int .i64 b.vl, .int .i64 b.vh] 30)).alloc (.cells #[.int .u64 0, .int .u64 0, .int .u64 0, .int .u64 0, .int .i64 0, .int .i64 0, .int .u64 0, .int .u64 0, .int .i64 0, .int .i64 0] 30)), p.to.cell? ⟨w.heap.size, 4, none⟩ = some (.int .i64 b.sl) := fun p => by have h := (HA.out.gr p.gr).cell 4; simpa only [List.getElem?_toArray, List.getElem?_cons_zero, List.getElem?_cons_succ] using h
  have p5 : ∀ p : GrBy ((w.alloc (.cells #[.int .u64 (iv b.tv), .int .u64 (iv b.tm), .int .u64 b.ul, .int .u64 b.uh, .int .i64 b.sl, .int .i64 b.sh, .int .u64 b.wl, .int .u64 b.wh, .int .i64 b.vl, .int .i64 b.vh] 30)).alloc (.cells #[.int .u64 0, .int .u64 0, .int .u64 0, .int .u64 0, .int .i64 0, .int .i64 0, .int .u64 0, .int .u64 0, .int .i64 0, .int .i64 0] 30)), p.to.cell? ⟨w.heap.size, 5, none⟩ = some (.int .i64 b.sh) := fun p => by have h := (HA.out.gr p.gr).cell 5; simpa only [List.getElem?_toArray, List.getElem?_cons_zero, List.getElem?_cons_succ] using h
  have p6 : ∀ p : GrBy ((w.alloc (.cells #[.int .u64 (iv b.tv), .int .u64 (iv b.tm), .int .u64 b.ul, .int .u64 b.uh, .int .i64 b.sl, .int .i64 b.sh, .int .u64 b.wl, .int .u64 b.wh, .int .i64 b.vl, .int .i64 b.vh] 30)).alloc (.cells #[.int .u64 0, .int .u64 0, .int .u64 0, .int .u64 0, .int .i64 0, .int .i64 0, .int .u64 0, .int .u64 0, .int .i64 0, .int .i64 0] 30)), p.to.cell? ⟨w.heap.size, 6, none⟩ = some (.int .u64 b.wl) := fun p => by have h := (HA.out.gr p.gr).cell 6; simpa only [List.getElem?_toArray, List.getElem?_cons_zero, List.getElem?_cons_succ] using h
  have p7 : ∀ p : GrBy ((w.alloc (.cells #[.int .u64 (iv b.tv), .int .u64 (iv b.tm), .int .u64 b.ul, .int .u64 b.uh, .int .i64 b.sl, .int .i64 b.sh, .int .u64 b.wl, .int .u64 b.wh, .int .i64 b.vl, .int .i64 b.vh] 30)).alloc (.cells #[.int .u64 0, .int .u64 0, .int .u64 0, .int .u64 0, .int .i64 0, .int .i64 0, .int .u64 0, .int .u64 0, .int .i64 0, .int .i64 0] 30)), p.to.cell? ⟨w.heap.size, 7, none⟩ = some (.int .u64 b.wh) := fun p => by have h := (HA.out.gr p.gr).cell 7; simpa only [List.getElem?_toArray, List.getElem?_cons_zero, List.getElem?_cons_succ] using h
  have p8 : ∀ p : GrBy ((w.alloc (.cells #[.int .u64 (iv b.tv), .int .u64 (iv b.tm), .int .u64 b.ul, .int .u64 b.uh, .int .i64 b.sl, .int .i64 b.sh, .int .u64 b.wl, .int .u64 b.wh, .int .i64 b.vl, .int .i64 b.vh] 30)).alloc (.cells #[.int .u64 0, .int .u64 0, .int .u64 0, .int .u64 0, .int .i64 0, .int .i64 0, .int .u64 0, .int .u64 0, .int .i64 0, .int .i64 0] 30)), p.to.cell? ⟨w.heap.size, 8, none⟩ = some (.int .i64 b.vl) := fun p => by have h := (HA.out.gr p.gr).cell 8; simpa only [List.getElem?_toArray, List.getElem?_cons_zero, List.getElem?_cons_succ] using h
  have p9 : ∀ p : GrBy ((w.alloc (.cells #[.int .u64 (iv b.tv), .int .u64 (iv b.tm), .int .u64 b.ul, .int .u64 b.uh, .int .i64 b.sl, .int .i64 b.sh, .int .u64 b.wl, .int .u64 b.wh, .int .i64 b.vl, .int .i64 b.vh] 30)).alloc (.cells #[.int .u64 0, .int .u64 0, .int .u64 0, .int .u64 0, .int .i64 0, .int .i64 0, .int .u64 0, .int .u64 0, .int .i64 0, .int .i64 0] 30)), p.to.cell? ⟨w.heap.size, 9, none⟩ = some (.int .i64 b.vh) := fun p => by have h := (HA.out.gr p.gr).cell 9; simpa only [List.getElem?_toArray, List.getElem?_cons_zero, List.getElem?_cons_succ] using h
  have hne : Nonempty (GrBy ((w.alloc (.cells #[.int .u64 (iv b.tv), .int .u64 (iv b.tm), .int .u64 b.ul, .int .u64 b.uh, .int .i64 b.sl, .int .i64 b.sh, .int .u64 b.wl, .int .u64 b.wh, .int .i64 b.vl, .int .i64 b.vh] 30)).alloc (.cells #[.int .u64 0, .int .u64 0, .int .u64 0, .int .u64 0, .int .i64 0, .int .i64 0, .int .u64 0, .int .u64 0, .int .i64 0, .int .i64 0] 30))) := ⟨⟨_, Gr.refl _⟩⟩
  go_enter Tryz.func11, Tryz.ntmps11
  go_wp2_with fail
  refine wp_region_gr (by kernel_rfl) (by kernel_rfl) ?_
  (try simp only [List.append_eq, List.cons_append, List.nil_append])
  repeat (first
    | go_big_quiet_skip
    | (go_big_quiet_want; go_big_quiet_op; first
      | go_big_quiet_on
      | (apply Exists.intro
         refine ⟨fun p => ?_, ?_⟩
         · first
             | (go_at_call 15; exact calls_gr (None_q _ _ _ _ _ _ _ _ _ _ _ (by with_reducible assumption) _))
             | (go_at_call 42; exact calls_gr (may_q _ _ _ (by with_reducible assumption) _))
             | (go_at_call 44; exact calls_gr (half_gr _))
             | (go_at_call 43; exact calls_gr (spanIn_q _ _ _ _ _ (by with_reducible assumption) _))
             | (go_at_call 46; exact calls_gr (shalf_gr _))
             | (go_at_call 45; exact calls_gr (within_q _ _ _ _ _ (by with_reducible assumption) _))
         go_big_quiet_on)))
  refine wpQuiet_nil ?_
  intro _ hw'
  obtain ⟨q, rfl⟩ := hw'
  clear p0 p1 p2 p3 p4 p5 p6 p7 p8 p9
  go_wp2_with (first
    | (go_at_call 47; refine (nothing_gr _).mono ?_; rintro e w1 ⟨rfl, hg⟩; have hr : Hid (AtA w1 (w.heap.size + 1) _ 30) := (HR.out.gr q.gr).gr hg; have hG : Hid (Gr w w1) := (HF.out.trans q.gr).trans hg; clear hg
       have f0 := (hr.out).f 0
       have f1 := (hr.out).f 1
       have f2 := (hr.out).f 2
       have f3 := (hr.out).f 3
       have f4 := (hr.out).f 4
       have f5 := (hr.out).f 5
       have f6 := (hr.out).f 6
       have f7 := (hr.out).f 7
       have f8 := (hr.out).f 8
       have f9 := (hr.out).f 9
       have d0 := (hr.out).cell 0
       have d1 := (hr.out).cell 1
       have d2 := (hr.out).cell 2
       have d3 := (hr.out).cell 3
       have d4 := (hr.out).cell 4
       have d5 := (hr.out).cell 5
       have d6 := (hr.out).cell 6
       have d7 := (hr.out).cell 7
       have d8 := (hr.out).cell 8
       have d9 := (hr.out).cell 9
       simp only [List.getElem?_toArray, List.getElem?_cons_zero, List.getElem?_cons_succ] at d0 d1 d2 d3 d4 d5 d6 d7 d8 d9
       have hz := (((((((((((hr.out).st 0 (.int .u64 0)).st 1 (.int .u64 0)).st 2 (.int .u64 1)).st 3 (.int .u64 0)).st 4 (.int .i64 1)).st 5 (.int .i64 0)).st 6 (.int .u64 1)).st 7 (.int .u64 0)).st 8 (.int .i64 1)).st 9 (.int .i64 0))
       simp only [zs, z0, z1] at hz
       have e0 := hz.cell 0
       have e1 := hz.cell 1
       have e2 := hz.cell 2
       have e3 := hz.cell 3
       have e4 := hz.cell 4
       have e5 := hz.cell 5
       have e6 := hz.cell 6
       have e7 := hz.cell 7
       have e8 := hz.cell 8
       have e9 := hz.cell 9
       simp only [List.getElem?_toArray, List.getElem?_cons_zero, List.getElem?_cons_succ] at e0 e1 e2 e3 e4 e5 e6 e7 e8 e9
       clear hz
))
  refine bodyPost_ret (by simp [results, Tryz.results11, go_sem, e0, e1, e2, e3, e4, e5, e6, e7, e8, e9]; try rfl) rfl ?_
  exact ⟨rfl, ((((((((((hG.out.set (by omega) _).set (by omega) _).set (by omega) _).set (by omega) _).set (by omega) _).set (by omega) _).set (by omega) _).set (by omega) _).set (by omega) _).set (by omega) _)⟩
end Go.Proofs.YtcbcijibgpaipaaGreat
