/- Towards the statements of package bound (layer 5): any number, one number alone, which numbers a bound has, and which bounds are within others; as the program has them. -/
import Derived.Test.YtcbcijibgpaipaaGreatBH
namespace Go.Proofs.YtcbcijibgpaipaaGreat
open Go.ChangeShapes Go.WideShapes Go.ChangeAt Go.RowKit
open Tn (iv)
set_option linter.unusedVariables false
set_option maxRecDepth 20000

theorem field_full (W : World) : Sem.run Tryz.prog (Instr.field 26 (.agg #[.int .u64 0, .int .u64 18446744073709551615]) 1) W = .ok (.int .u64 18446744073709551615) W := by
  rfl
set_option maxRecDepth 100000 in
theorem any_any (w : World) : Calls Tryz.prog 59 #[] w fun e w' => e = .returned (.agg #[.int .u64 (iv 0#64), .int .u64 (iv 18446744073709551615#64), .int .u64 0, .int .u64 18446744073709551615, .int .i64 (-9223372036854775808), .int .i64 9223372036854775807, .int .u64 0, .int .u64 4294967295, .int .i64 (-2147483648), .int .i64 2147483647]) ∧ Gr w w' := by
  have ef : ∀ W, Sem.run Tryz.prog (Instr.field 26 (.agg #[.int .u64 0, .int .u64 18446744073709551615]) 1) W = .ok (.int .u64 18446744073709551615) W := field_full
  go_enter Tryz.func59, Tryz.ntmps59
  go_wp2_with (first
    | (go_at_call 123; refine (whole_u _).mono ?_; rintro e w' ⟨rfl, hw⟩; rw [hw]; clear hw)
    | (go_at_call 124; refine (whole_s _).mono ?_; rintro e w' ⟨rfl, hw⟩; rw [hw]; clear hw)
    | (go_at_call 44; refine (half_any _).mono ?_; rintro e w' ⟨rfl, hw⟩; rw [hw]; clear hw)
    | (go_at_call 46; refine (shalf_any _).mono ?_; rintro e w' ⟨rfl, hw⟩; rw [hw]; clear hw))
  go_returns
  exact ⟨rfl, by go_grown, by go_grown⟩
theorem const_any (x : BitVec 64) (w : World) : Calls Tryz.prog 13 #[.int .u64 (iv x)] w fun e w' => e = .returned (.agg #[.int .u64 (iv x), .int .u64 (iv 0#64), .int .u64 (iv x), .int .u64 (iv x), .int .i64 (wrap64 (iv x)), .int .i64 (wrap64 (iv x)), .int .u64 (iv x % 4294967296), .int .u64 (iv x % 4294967296), .int .i64 (sg (iv x)), .int .i64 (sg (iv x))]) ∧ Gr w w' := by
  go_enter Tryz.func13, Tryz.ntmps13
  go_wp2_with (first
    | (go_at_call 52; refine (lower_any _ (inU_iv _) _).mono ?_; rintro e w' ⟨rfl, hw⟩; rw [hw]; clear hw)
    | (go_at_call 53; refine (slower_any _ _).mono ?_; rintro e w' ⟨rfl, hw⟩; rw [hw]; clear hw)
    | (go_at_call 54; refine (Tn.const_any _ _).mono ?_; rintro e w' ⟨rfl, hw⟩; rw [hw]; clear hw))
  go_returns
  exact ⟨rfl, by go_grown, by go_grown⟩
theorem thas_q (v m x : BitVec 64) (q : Bool) (h : (x &&& ~~~m == v) = q) (w : World) : Calls Tryz.prog 61 #[.agg #[.int .u64 (iv v), .int .u64 (iv m)], .int .u64 (iv x)] w fun e w' => e = .returned (.bool q) ∧ Gr w w' := h ▸ cv (Tn.has_gr v m x w)
theorem uhas_q (l h x : Int) (q : Bool) (k : (decide (l ≤ x) && decide (x ≤ h)) = q) (w : World) : Calls Tryz.prog 62 #[.agg #[.int .u64 l, .int .u64 h], .int .u64 x] w fun e w' => e = .returned (.bool q) ∧ Gr w w' := by
  subst k
  refine (Has_u l h x w).mono ?_
  rintro e w' ⟨rfl, hw⟩
  rw [hw]
  exact ⟨rfl, by go_grown, by go_grown⟩
theorem shas_q (l h x : Int) (q : Bool) (k : (decide (l ≤ x) && decide (x ≤ h)) = q) (w : World) : Calls Tryz.prog 63 #[.agg #[.int .i64 l, .int .i64 h], .int .i64 x] w fun e w' => e = .returned (.bool q) ∧ Gr w w' := by
  subst k
  refine (Has_s l h x w).mono ?_
  rintro e w' ⟨rfl, hw⟩
  rw [hw]
  exact ⟨rfl, by go_grown, by go_grown⟩
theorem lower_gr (x : Int) (h : InU x) (w : World) : Calls Tryz.prog 52 #[.int .u64 x] w fun e w' => e = .returned (.int .u64 (x % 4294967296)) ∧ Gr w w' := (lower_any x h w).mono fun _ _ k => ⟨k.1, k.2 ▸ Gr.refl w⟩
theorem slower_gr (x : Int) (w : World) : Calls Tryz.prog 53 #[.int .u64 x] w fun e w' => e = .returned (.int .i64 (sg x)) ∧ Gr w w' := (slower_any x w).mono fun _ _ k => ⟨k.1, k.2 ▸ Gr.refl w⟩
set_option maxHeartbeats 4000000 in
theorem has_all (tv tm : BitVec 64) (ul uh sl sh wl wh vl vh : Int) (x : BitVec 64) (w : World) : Calls Tryz.prog 18 #[.agg #[.int .u64 (iv tv), .int .u64 (iv tm), .int .u64 ul, .int .u64 uh, .int .i64 sl, .int .i64 sh, .int .u64 wl, .int .u64 wh, .int .i64 vl, .int .i64 vh], .int .u64 (iv x)] w fun e w' => e = .returned (.bool ((x &&& ~~~tm == tv) && (decide (ul ≤ iv x) && decide (iv x ≤ uh)) && (decide (sl ≤ wrap64 (iv x)) && decide (wrap64 (iv x) ≤ sh)) && (decide (wl ≤ iv x % 4294967296) && decide (iv x % 4294967296 ≤ wh)) && (decide (vl ≤ sg (iv x)) && decide (sg (iv x) ≤ vh)))) ∧ Gr w w' := by
  have HA : Hid (AtA (w.alloc (.cells #[.int .u64 (iv tv), .int .u64 (iv tm), .int .u64 ul, .int .u64 uh, .int .i64 sl, .int .i64 sh, .int .u64 wl, .int .u64 wh, .int .i64 vl, .int .i64 vh] 30)) w.heap.size #[.int .u64 (iv tv), .int .u64 (iv tm), .int .u64 ul, .int .u64 uh, .int .i64 sl, .int .i64 sh, .int .u64 wl, .int .u64 wh, .int .i64 vl, .int .i64 vh] 30) := AtA.newb _ rfl _ _
  have HF : Hid (Gr w (w.alloc (.cells #[.int .u64 (iv tv), .int .u64 (iv tm), .int .u64 ul, .int .u64 uh, .int .i64 sl, .int .i64 sh, .int .u64 wl, .int .u64 wh, .int .i64 vl, .int .i64 vh] 30))) := (⟨by go_grown, by go_grown⟩ : Gr w _)
  have p0 : ∀ p : GrBy (w.alloc (.cells #[.int .u64 (iv tv), .int .u64 (iv tm), .int .u64 ul, .int .u64 uh, .int .i64 sl, .int .i64 sh, .int .u64 wl, .int .u64 wh, .int .i64 vl, .int .i64 vh] 30)), p.to.cell? ⟨w.heap.size, 0, none⟩ = some (.int .u64 (iv tv)) := fun p => by have h := (HA.out.gr p.gr).cell 0; simpa only [List.getElem?_toArray, List.getElem?_cons_zero, List.getElem?_cons_succ] using h
  have p1 : ∀ p : GrBy (w.alloc (.cells #[.int .u64 (iv tv), .int .u64 (iv tm), .int .u64 ul, .int .u64 uh, .int .i64 sl, .int .i64 sh, .int .u64 wl, .int .u64 wh, .int .i64 vl, .int .i64 vh] 30)), p.to.cell? ⟨w.heap.size, 1, none⟩ = some (.int .u64 (iv tm)) := fun p => by have h := (HA.out.gr p.gr).cell 1; simpa only [List.getElem?_toArray, List.getElem?_cons_zero, List.getElem?_cons_succ] using h
  have p2 : ∀ p : GrBy (w.alloc (.cells #[.int .u64 (iv tv), .int .u64 (iv tm), .int .u64 ul, .int .u64 uh, .int .i64 sl, .int .i64 sh, .int .u64 wl, .int .u64 wh, .int .i64 vl, .int .i64 vh] 30)), p.to.cell? ⟨w.heap.size, 2, none⟩ = some (.int .u64 ul) := fun p => by have h := (HA.out.gr p.gr).cell 2; simpa only [List.getElem?_toArray, List.getElem?_cons_zero, List.getElem?_cons_succ] using h
  have p3 : ∀ p : GrBy (w.alloc (.cells #[.int .u64 (iv tv), .int .u64 (iv tm), .int .u64 ul, .int .u64 uh, .int .i64 sl, .int .i64 sh, .int .u64 wl, .int .u64 wh, .int .i64 vl, .int .i64 vh] 30)), p.to.cell? ⟨w.heap.size, 3, none⟩ = some (.int .u64 uh) := fun p => by have h := (HA.out.gr p.gr).cell 3; simpa only [List.getElem?_toArray, List.getElem?_cons_zero, List.getElem?_cons_succ] using h
  have p4 : ∀ p : GrBy (w.alloc (.cells #[.int .u64 (iv tv), .int .u64 (iv tm), .int .u64 ul, .int .u64 uh, .int .i64 sl, .int .i64 sh, .int .u64 wl, .int .u64 wh, .int .i64 vl, .int .i64 vh] 30)), p.to.cell? ⟨w.heap.size, 4, none⟩ = some (.int .i64 sl) := fun p => by have h := (HA.out.gr p.gr).cell 4; simpa only [List.getElem?_toArray, List.getElem?_cons_zero, List.getElem?_cons_succ] using h
  have p5 : ∀ p : GrBy (w.alloc (.cells #[.int .u64 (iv tv), .int .u64 (iv tm), .int .u64 ul, .int .u64 uh, .int .i64 sl, .int .i64 sh, .int .u64 wl, .int .u64 wh, .int .i64 vl, .int .i64 vh] 30)), p.to.cell? ⟨w.heap.size, 5, none⟩ = some (.int .i64 sh) := fun p => by have h := (HA.out.gr p.gr).cell 5; simpa only [List.getElem?_toArray, List.getElem?_cons_zero, List.getElem?_cons_succ] using h
  have p6 : ∀ p : GrBy (w.alloc (.cells #[.int .u64 (iv tv), .int .u64 (iv tm), .int .u64 ul, .int .u64 uh, .int .i64 sl, .int .i64 sh, .int .u64 wl, .int .u64 wh, .int .i64 vl, .int .i64 vh] 30)), p.to.cell? ⟨w.heap.size, 6, none⟩ = some (.int .u64 wl) := fun p => by have h := (HA.out.gr p.gr).cell 6; simpa only [List.getElem?_toArray, List.getElem?_cons_zero, List.getElem?_cons_succ] using h
  have p7 : ∀ p : GrBy (w.alloc (.cells #[.int .u64 (iv tv), .int .u64 (iv tm), .int .u64 ul, .int .u64 uh, .int .i64 sl, .int .i64 sh, .int .u64 wl, .int .u64 wh, .int .i64 vl, .int .i64 vh] 30)), p.to.cell? ⟨w.heap.size, 7, none⟩ = some (.int .u64 wh) := fun p => by have h := (HA.out.gr p.gr).cell 7; simpa only [List.getElem?_toArray, List.getElem?_cons_zero, List.getElem?_cons_succ] using h
  have p8 : ∀ p : GrBy (w.alloc (.cells #[.int .u64 (iv tv), .int .u64 (iv tm), .int .u64 ul, .int .u64 uh, .int .i64 sl, .int .i64 sh, .int .u64 wl, .int .u64 wh, .int .i64 vl, .int .i64 vh] 30)), p.to.cell? ⟨w.heap.size, 8, none⟩ = some (.int .i64 vl) := fun p => by have h := (HA.out.gr p.gr).cell 8; simpa only [List.getElem?_toArray, List.getElem?_cons_zero, List.getElem?_cons_succ] using h
  have p9 : ∀ p : GrBy (w.alloc (.cells #[.int .u64 (iv tv), .int .u64 (iv tm), .int .u64 ul, .int .u64 uh, .int .i64 sl, .int .i64 sh, .int .u64 wl, .int .u64 wh, .int .i64 vl, .int .i64 vh] 30)), p.to.cell? ⟨w.heap.size, 9, none⟩ = some (.int .i64 vh) := fun p => by have h := (HA.out.gr p.gr).cell 9; simpa only [List.getElem?_toArray, List.getElem?_cons_zero, List.getElem?_cons_succ] using h
  have hne : Nonempty (GrBy (w.alloc (.cells #[.int .u64 (iv tv), .int .u64 (iv tm), .int .u64 ul, .int .u64 uh, .int .i64 sl, .int .i64 sh, .int .u64 wl, .int .u64 wh, .int .i64 vl, .int .i64 vh] 30))) := ⟨⟨_, Gr.refl _⟩⟩
  cases b0 : (x &&& ~~~tm == tv)
  · go_enter Tryz.func18, Tryz.ntmps18
    go_wp2_with fail
    refine wp_region_gr (by kernel_rfl) (by kernel_rfl) ?_
    (try simp only [List.append_eq, List.cons_append, List.nil_append])
    repeat (first
      | go_big_quiet_skip
      | (go_big_quiet_want; go_big_quiet_op; first
        | go_big_quiet_on
        | (apply Exists.intro
           refine ⟨fun p => ?_, ?_⟩
           · first
               | (go_at_call 61; exact calls_gr (thas_q _ _ _ _ (by with_reducible assumption) _))
               | (go_at_call 62; exact calls_gr (uhas_q _ _ _ _ (by with_reducible assumption) _))
               | (go_at_call 63; exact calls_gr (shas_q _ _ _ _ (by with_reducible assumption) _))
               | (go_at_call 52; exact calls_gr (lower_gr _ (inU_iv _) _))
               | (go_at_call 53; exact calls_gr (slower_gr _ _))
           go_big_quiet_on)))
    refine wpQuiet_nil ?_
    intro _ hw'
    obtain ⟨q, rfl⟩ := hw'
    go_wp2_with fail
    go_ret
    exact ⟨rfl, HF.out.trans q.gr⟩
  · cases b1 : (decide (ul ≤ iv x) && decide (iv x ≤ uh))
    · go_enter Tryz.func18, Tryz.ntmps18
      go_wp2_with fail
      refine wp_region_gr (by kernel_rfl) (by kernel_rfl) ?_
      (try simp only [List.append_eq, List.cons_append, List.nil_append])
      repeat (first
        | go_big_quiet_skip
        | (go_big_quiet_want; go_big_quiet_op; first
          | go_big_quiet_on
          | (apply Exists.intro
             refine ⟨fun p => ?_, ?_⟩
             · first
                 | (go_at_call 61; exact calls_gr (thas_q _ _ _ _ (by with_reducible assumption) _))
                 | (go_at_call 62; exact calls_gr (uhas_q _ _ _ _ (by with_reducible assumption) _))
                 | (go_at_call 63; exact calls_gr (shas_q _ _ _ _ (by with_reducible assumption) _))
                 | (go_at_call 52; exact calls_gr (lower_gr _ (inU_iv _) _))
                 | (go_at_call 53; exact calls_gr (slower_gr _ _))
             go_big_quiet_on)))
      refine wpQuiet_nil ?_
      intro _ hw'
      obtain ⟨q, rfl⟩ := hw'
      go_wp2_with fail
      go_ret
      exact ⟨rfl, HF.out.trans q.gr⟩
    · cases b2 : (decide (sl ≤ wrap64 (iv x)) && decide (wrap64 (iv x) ≤ sh))
      · go_enter Tryz.func18, Tryz.ntmps18
        go_wp2_with fail
        refine wp_region_gr (by kernel_rfl) (by kernel_rfl) ?_
        (try simp only [List.append_eq, List.cons_append, List.nil_append])
        repeat (first
          | go_big_quiet_skip
          | (go_big_quiet_want; go_big_quiet_op; first
            | go_big_quiet_on
            | (apply Exists.intro
               refine ⟨fun p => ?_, ?_⟩
               · first
                   | (go_at_call 61; exact calls_gr (thas_q _ _ _ _ (by with_reducible assumption) _))
                   | (go_at_call 62; exact calls_gr (uhas_q _ _ _ _ (by with_reducible assumption) _))
                   | (go_at_call 63; exact calls_gr (shas_q _ _ _ _ (by with_reducible assumption) _))
                   | (go_at_call 52; exact calls_gr (lower_gr _ (inU_iv _) _))
                   | (go_at_call 53; exact calls_gr (slower_gr _ _))
               go_big_quiet_on)))
        refine wpQuiet_nil ?_
        intro _ hw'
        obtain ⟨q, rfl⟩ := hw'
        go_wp2_with fail
        go_ret
        exact ⟨rfl, HF.out.trans q.gr⟩
      · cases b3 : (decide (wl ≤ iv x % 4294967296) && decide (iv x % 4294967296 ≤ wh))
        · go_enter Tryz.func18, Tryz.ntmps18
          go_wp2_with fail
          refine wp_region_gr (by kernel_rfl) (by kernel_rfl) ?_
          (try simp only [List.append_eq, List.cons_append, List.nil_append])
          repeat (first
            | go_big_quiet_skip
            | (go_big_quiet_want; go_big_quiet_op; first
              | go_big_quiet_on
              | (apply Exists.intro
                 refine ⟨fun p => ?_, ?_⟩
                 · first
                     | (go_at_call 61; exact calls_gr (thas_q _ _ _ _ (by with_reducible assumption) _))
                     | (go_at_call 62; exact calls_gr (uhas_q _ _ _ _ (by with_reducible assumption) _))
                     | (go_at_call 63; exact calls_gr (shas_q _ _ _ _ (by with_reducible assumption) _))
                     | (go_at_call 52; exact calls_gr (lower_gr _ (inU_iv _) _))
                     | (go_at_call 53; exact calls_gr (slower_gr _ _))
                 go_big_quiet_on)))
          refine wpQuiet_nil ?_
          intro _ hw'
          obtain ⟨q, rfl⟩ := hw'
          go_wp2_with fail
          go_ret
          exact ⟨rfl, HF.out.trans q.gr⟩
        · cases b4 : (decide (vl ≤ sg (iv x)) && decide (sg (iv x) ≤ vh))
          · go_enter Tryz.func18, Tryz.ntmps18
            go_wp2_with fail
            refine wp_region_gr (by kernel_rfl) (by kernel_rfl) ?_
            (try simp only [List.append_eq, List.cons_append, List.nil_append])
            repeat (first
              | go_big_quiet_skip
              | (go_big_quiet_want; go_big_quiet_op; first
                | go_big_quiet_on
                | (apply Exists.intro
                   refine ⟨fun p => ?_, ?_⟩
                   · first
                       | (go_at_call 61; exact calls_gr (thas_q _ _ _ _ (by with_reducible assumption) _))
                       | (go_at_call 62; exact calls_gr (uhas_q _ _ _ _ (by with_reducible assumption) _))
                       | (go_at_call 63; exact calls_gr (shas_q _ _ _ _ (by with_reducible assumption) _))
                       | (go_at_call 52; exact calls_gr (lower_gr _ (inU_iv _) _))
                       | (go_at_call 53; exact calls_gr (slower_gr _ _))
                   go_big_quiet_on)))
            refine wpQuiet_nil ?_
            intro _ hw'
            obtain ⟨q, rfl⟩ := hw'
            go_wp2_with fail
            go_ret
            exact ⟨rfl, HF.out.trans q.gr⟩
          · go_enter Tryz.func18, Tryz.ntmps18
            go_wp2_with fail
            refine wp_region_gr (by kernel_rfl) (by kernel_rfl) ?_
            (try simp only [List.append_eq, List.cons_append, List.nil_append])
            repeat (first
              | go_big_quiet_skip
              | (go_big_quiet_want; go_big_quiet_op; first
                | go_big_quiet_on
                | (apply Exists.intro
                   refine ⟨fun p => ?_, ?_⟩
                   · first
                       | (go_at_call 61; exact calls_gr (thas_q _ _ _ _ (by with_reducible assumption) _))
                       | (go_at_call 62; exact calls_gr (uhas_q _ _ _ _ (by with_reducible assumption) _))
                       | (go_at_call 63; exact calls_gr (shas_q _ _ _ _ (by with_reducible assumption) _))
                       | (go_at_call 52; exact calls_gr (lower_gr _ (inU_iv _) _))
                       | (go_at_call 53; exact calls_gr (slower_gr _ _))
                   go_big_quiet_on)))
            refine wpQuiet_nil ?_
            intro _ hw'
            obtain ⟨q, rfl⟩ := hw'
            go_wp2_with fail
            go_ret
            exact ⟨rfl, HF.out.trans q.gr⟩
end Go.Proofs.YtcbcijibgpaipaaGreat
