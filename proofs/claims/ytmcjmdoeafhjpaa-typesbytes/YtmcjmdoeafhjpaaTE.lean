/- Towards the statements of package types (layer 10): what a field may hold. -/
import Derived.Test.YtmcjmdoeafhjpaaTD
namespace Go.Proofs.Ytmcjmdoeafhjpaa
open Go.ChangeShapes Go.WideShapes Go.ChangeAt Go.RowKit
set_option linter.unusedVariables false
set_option linter.unusedSimpArgs false
set_option maxRecDepth 20000

/-- A world behind calls that make memory, as one letter: for regions whose order is open. -/
structure BlBy (w : World) where
  wo : World
  bl : Bl w wo
theorem wp_region_bl {P : Program} {id : Nat} {Q : Exit → Act → World → Prop} {a : Act} {w : World} {l : List Oper} (hm : P.follows .mixedOrders = true) (hB : Region.lexB .any l.toArray = true)
    (h : wpQuiet P l.toArray (fun w' => ∃ p : BlBy w, w' = p.wo) (fun a' => ∀ w', (∃ p : BlBy w, w' = p.wo) → Q .normal a' w') l a) : (Code.region id l.toArray true).wp P Q a w :=
  wp_region_quiet (C := fun w' => ∃ p : BlBy w, w' = p.wo) hm hB ⟨⟨w.drew, by go_grown⟩, rfl⟩ (by simpa using h)
theorem calls_bl {P : Program} {f : FuncId} {args : Array Value} {w : World} {p : BlBy w} {v : Value} (h : Calls P f args p.wo fun e w' => e = .returned v ∧ Bl p.wo w') :
    Calls P f args p.wo fun e w' => e = .returned v ∧ ∃ q : BlBy w, w' = q.wo :=
  h.mono fun _ w' ⟨he, hg⟩ => ⟨he, ⟨w', p.bl.trans hg⟩, rfl⟩
theorem calls_eq {P : Program} {f : FuncId} {args : Array Value} {w : World} {p : BlBy w} {v : Value} (h : Calls P f args p.wo fun e w' => e = .returned v ∧ w' = p.wo) :
    Calls P f args p.wo fun e w' => e = .returned v ∧ ∃ q : BlBy w, w' = q.wo :=
  h.mono fun _ w' ⟨he, hg⟩ => ⟨he, p, hg⟩
def holdM (L : List Ty) (x : Fd) : Bool :=
  if x.k = 1 then isObjM L x.o && (x.d == 0)
  else if x.k = 2 then (match nthM L x.o with | some t => objM t.fs && isKindM t.fs x.d 3 | none => false)
  else if x.k = 4 then (match nthM L x.o with | some t => objM t.fs && isKindM t.fs x.d 5 | none => false)
  else (x.o == 0) && (x.d == 0)
set_option maxHeartbeats 2000000 in
theorem hold_1 (p : Option Addr) (c : Nat) (L : List Ty) (x : Fd) (w : World) (hL : Tys w p L) (hx : x.ok) (hk : x.k = 1) : Calls Try.prog 46 #[.slice p L.length c, .agg #[.string x.n, .int .u8 x.k, .int .i64 x.a, .int .i64 x.o, .int .i64 x.d]] w fun e w' => e = .returned (.bool (isObjM L x.o && (x.d == 0))) ∧ Bl w w' := by
  have hb0 : Bl w (w.alloc (.cells x.cs 48)) := (Bl.refl w).alloc _
  have hs : w.heap.size < (w.alloc (.cells x.cs 48)).heap.size := by rw [size_new]; omega
  have hF := fcell_new w x
  obtain ⟨xn, xk, xa, xo, xd⟩ := x
  dsimp only at hk hF hb0 hs ⊢
  subst hk
  have k1 := isObj_any p c L xo _ (hL.gr hb0)
  generalize isObjM L xo = q at k1 ⊢
  cases q
  · go_enter Try.func46, Try.ntmps46
    go_wp2_with (go_at_call 73; refine k1.mono ?_; rintro e w' ⟨rfl, hb⟩)
    go_returns
    exact ⟨rfl, hb0.trans hb⟩
  · go_enter Try.func46, Try.ntmps46
    go_wp2_with (go_at_call 73; refine k1.mono ?_; rintro e w' ⟨rfl, hb⟩; obtain ⟨z0, z1, z2, z3, z4⟩ := hF.gr hs hb)
    go_returns
    exact ⟨rfl, hb0.trans hb⟩
set_option maxHeartbeats 2000000 in
theorem hold_2n (p : Option Addr) (c : Nat) (L : List Ty) (x : Fd) (w : World) (hL : Tys w p L) (hx : x.ok) (hk : x.k = 2) (hq : isObjM L x.o = false) : Calls Try.prog 46 #[.slice p L.length c, .agg #[.string x.n, .int .u8 x.k, .int .i64 x.a, .int .i64 x.o, .int .i64 x.d]] w fun e w' => e = .returned (.bool false) ∧ Bl w w' := by
  have hb0 : Bl w (w.alloc (.cells x.cs 48)) := (Bl.refl w).alloc _
  have hs : w.heap.size < (w.alloc (.cells x.cs 48)).heap.size := by rw [size_new]; omega
  have hF := fcell_new w x
  obtain ⟨xn, xk, xa, xo, xd⟩ := x
  dsimp only at hk hF hb0 hs ⊢
  subst hk
  have k1 := fun W (h : Bl (w.alloc (.cells #[.string xn, .int .u8 2, .int .i64 xa, .int .i64 xo, .int .i64 xd] 48)) W) => isObj_any p c L xo W ((hL.gr hb0).gr h)
  dsimp only at hq
  rw [hq] at k1
  have f3 := fun p : BlBy (w.alloc (.cells #[.string xn, .int .u8 2, .int .i64 xa, .int .i64 xo, .int .i64 xd] 48)) => (hF.gr hs p.bl).2.2.2.1
  have f4 := fun p : BlBy (w.alloc (.cells #[.string xn, .int .u8 2, .int .i64 xa, .int .i64 xo, .int .i64 xd] 48)) => (hF.gr hs p.bl).2.2.2.2
  have hne : Nonempty (BlBy (w.alloc (.cells #[.string xn, .int .u8 2, .int .i64 xa, .int .i64 xo, .int .i64 xd] 48))) := ⟨⟨_, Bl.refl _⟩⟩
  simp only [Nat.zero_add] at f3 f4
  try dsimp only at f3 f4
  go_enter Try.func46, Try.ntmps46
  go_upto_region 5 with fail
  refine wp_region_bl (by kernel_rfl) (by kernel_rfl) ?_
  repeat (first
    | go_big_quiet_skip
    | (go_big_quiet_want; go_big_quiet_op; first
      | go_big_quiet_on
      | (apply Exists.intro
         refine ⟨fun p => ?_, ?_⟩
         · first
             | (go_at_call 73; exact calls_bl (k1 _ p.bl))
         go_big_quiet_on)))
  refine wpQuiet_nil ?_
  intro _ hw'
  obtain ⟨⟨wq, hq⟩, rfl⟩ := hw'
  go_wp2
  go_returns
  exact ⟨rfl, hb0.trans hq⟩
set_option maxHeartbeats 2000000 in
theorem hold_2y (p : Option Addr) (c : Nat) (L : List Ty) (x : Fd) (w : World) (hL : Tys w p L) (hx : x.ok) (hk : x.k = 2) (t : Ty) (ht : nthM L x.o = some t) (hq : objM t.fs = true) : Calls Try.prog 46 #[.slice p L.length c, .agg #[.string x.n, .int .u8 x.k, .int .i64 x.a, .int .i64 x.o, .int .i64 x.d]] w fun e w' => e = .returned (.bool (isKindM t.fs x.d 3)) ∧ Bl w w' := by
  have hb0 : Bl w (w.alloc (.cells x.cs 48)) := (Bl.refl w).alloc _
  have hs : w.heap.size < (w.alloc (.cells x.cs 48)).heap.size := by rw [size_new]; omega
  have hF := fcell_new w x
  obtain ⟨xn, xk, xa, xo, xd⟩ := x
  dsimp only at hk hF hb0 hs ⊢
  subst hk
  have k1 := fun W (h : Bl (w.alloc (.cells #[.string xn, .int .u8 2, .int .i64 xa, .int .i64 xo, .int .i64 xd] 48)) W) => isObj_any p c L xo W ((hL.gr hb0).gr h)
  dsimp only at ht
  have hq1 : isObjM L xo = true := by unfold isObjM; rw [ht]; exact hq
  rw [hq1] at k1
  obtain ⟨h0, h1, hx1⟩ := nth_some ht
  have hlen := hL.len
  unfold maxLen at hlen
  obtain ⟨j, rfl⟩ := Int.eq_ofNat_of_zero_le h0
  obtain ⟨b, off, rfl, hb1, hT, hok, _⟩ := (hL.gr hb0).get (j := j) (by simpa using hx1)
  have k2 := fun W (h : Bl (w.alloc (.cells #[.string xn, .int .u8 2, .int .i64 xa, .int .i64 (j : Int), .int .i64 xd] 48)) W) => isKind_any t xd 3 W (hok.f.gr h)
  have f3 := fun p : BlBy (w.alloc (.cells #[.string xn, .int .u8 2, .int .i64 xa, .int .i64 (j : Int), .int .i64 xd] 48)) => (hF.gr hs p.bl).2.2.2.1
  have f4 := fun p : BlBy (w.alloc (.cells #[.string xn, .int .u8 2, .int .i64 xa, .int .i64 (j : Int), .int .i64 xd] 48)) => (hF.gr hs p.bl).2.2.2.2
  have hne : Nonempty (BlBy (w.alloc (.cells #[.string xn, .int .u8 2, .int .i64 xa, .int .i64 (j : Int), .int .i64 xd] 48))) := ⟨⟨_, Bl.refl _⟩⟩
  have g0 := fun p : BlBy (w.alloc (.cells #[.string xn, .int .u8 2, .int .i64 xa, .int .i64 (j : Int), .int .i64 xd] 48)) => (hT.gr hb1 p.bl).1
  have g1 := fun p : BlBy (w.alloc (.cells #[.string xn, .int .u8 2, .int .i64 xa, .int .i64 (j : Int), .int .i64 xd] 48)) => (hT.gr hb1 p.bl).2.1
  have g2 := fun p : BlBy (w.alloc (.cells #[.string xn, .int .u8 2, .int .i64 xa, .int .i64 (j : Int), .int .i64 xd] 48)) => (hT.gr hb1 p.bl).2.2
  simp only [Nat.zero_add] at f3 f4
  try dsimp only at f3 f4
  clear hx1 ht hq1 hq
  generalize isKindM t.fs xd 3 = q at k2 ⊢
  go_enter Try.func46, Try.ntmps46
  go_upto_region 5 with fail
  refine wp_region_bl (by kernel_rfl) (by kernel_rfl) ?_
  repeat (first
    | go_big_quiet_skip
    | (go_big_quiet_want; go_big_quiet_op; first
      | go_big_quiet_on
      | (apply Exists.intro
         refine ⟨fun p => ?_, ?_⟩
         · first
             | (go_at_call 73; exact calls_bl (k1 _ p.bl))
             | (go_at_call 74; exact calls_bl (k2 _ p.bl))
         go_big_quiet_on)))
  refine wpQuiet_nil ?_
  intro _ hw'
  obtain ⟨⟨wq, hq⟩, rfl⟩ := hw'
  go_wp2
  go_returns
  exact ⟨rfl, hb0.trans hq⟩
set_option maxHeartbeats 2000000 in
theorem hold_4n (p : Option Addr) (c : Nat) (L : List Ty) (x : Fd) (w : World) (hL : Tys w p L) (hx : x.ok) (hk : x.k = 4) (hq : isObjM L x.o = false) : Calls Try.prog 46 #[.slice p L.length c, .agg #[.string x.n, .int .u8 x.k, .int .i64 x.a, .int .i64 x.o, .int .i64 x.d]] w fun e w' => e = .returned (.bool false) ∧ Bl w w' := by
  have hb0 : Bl w (w.alloc (.cells x.cs 48)) := (Bl.refl w).alloc _
  have hs : w.heap.size < (w.alloc (.cells x.cs 48)).heap.size := by rw [size_new]; omega
  have hF := fcell_new w x
  obtain ⟨xn, xk, xa, xo, xd⟩ := x
  dsimp only at hk hF hb0 hs ⊢
  subst hk
  have k1 := fun W (h : Bl (w.alloc (.cells #[.string xn, .int .u8 4, .int .i64 xa, .int .i64 xo, .int .i64 xd] 48)) W) => isObj_any p c L xo W ((hL.gr hb0).gr h)
  dsimp only at hq
  rw [hq] at k1
  have f3 := fun p : BlBy (w.alloc (.cells #[.string xn, .int .u8 4, .int .i64 xa, .int .i64 xo, .int .i64 xd] 48)) => (hF.gr hs p.bl).2.2.2.1
  have f4 := fun p : BlBy (w.alloc (.cells #[.string xn, .int .u8 4, .int .i64 xa, .int .i64 xo, .int .i64 xd] 48)) => (hF.gr hs p.bl).2.2.2.2
  have hne : Nonempty (BlBy (w.alloc (.cells #[.string xn, .int .u8 4, .int .i64 xa, .int .i64 xo, .int .i64 xd] 48))) := ⟨⟨_, Bl.refl _⟩⟩
  simp only [Nat.zero_add] at f3 f4
  try dsimp only at f3 f4
  go_enter Try.func46, Try.ntmps46
  go_upto_region 7 with fail
  refine wp_region_bl (by kernel_rfl) (by kernel_rfl) ?_
  repeat (first
    | go_big_quiet_skip
    | (go_big_quiet_want; go_big_quiet_op; first
      | go_big_quiet_on
      | (apply Exists.intro
         refine ⟨fun p => ?_, ?_⟩
         · first
             | (go_at_call 73; exact calls_bl (k1 _ p.bl))
         go_big_quiet_on)))
  refine wpQuiet_nil ?_
  intro _ hw'
  obtain ⟨⟨wq, hq⟩, rfl⟩ := hw'
  go_wp2
  go_returns
  exact ⟨rfl, hb0.trans hq⟩
set_option maxHeartbeats 2000000 in
theorem hold_4y (p : Option Addr) (c : Nat) (L : List Ty) (x : Fd) (w : World) (hL : Tys w p L) (hx : x.ok) (hk : x.k = 4) (t : Ty) (ht : nthM L x.o = some t) (hq : objM t.fs = true) : Calls Try.prog 46 #[.slice p L.length c, .agg #[.string x.n, .int .u8 x.k, .int .i64 x.a, .int .i64 x.o, .int .i64 x.d]] w fun e w' => e = .returned (.bool (isKindM t.fs x.d 5)) ∧ Bl w w' := by
  have hb0 : Bl w (w.alloc (.cells x.cs 48)) := (Bl.refl w).alloc _
  have hs : w.heap.size < (w.alloc (.cells x.cs 48)).heap.size := by rw [size_new]; omega
  have hF := fcell_new w x
  obtain ⟨xn, xk, xa, xo, xd⟩ := x
  dsimp only at hk hF hb0 hs ⊢
  subst hk
  have k1 := fun W (h : Bl (w.alloc (.cells #[.string xn, .int .u8 4, .int .i64 xa, .int .i64 xo, .int .i64 xd] 48)) W) => isObj_any p c L xo W ((hL.gr hb0).gr h)
  dsimp only at ht
  have hq1 : isObjM L xo = true := by unfold isObjM; rw [ht]; exact hq
  rw [hq1] at k1
  obtain ⟨h0, h1, hx1⟩ := nth_some ht
  have hlen := hL.len
  unfold maxLen at hlen
  obtain ⟨j, rfl⟩ := Int.eq_ofNat_of_zero_le h0
  obtain ⟨b, off, rfl, hb1, hT, hok, _⟩ := (hL.gr hb0).get (j := j) (by simpa using hx1)
  have k2 := fun W (h : Bl (w.alloc (.cells #[.string xn, .int .u8 4, .int .i64 xa, .int .i64 (j : Int), .int .i64 xd] 48)) W) => isKind_any t xd 5 W (hok.f.gr h)
  have f3 := fun p : BlBy (w.alloc (.cells #[.string xn, .int .u8 4, .int .i64 xa, .int .i64 (j : Int), .int .i64 xd] 48)) => (hF.gr hs p.bl).2.2.2.1
  have f4 := fun p : BlBy (w.alloc (.cells #[.string xn, .int .u8 4, .int .i64 xa, .int .i64 (j : Int), .int .i64 xd] 48)) => (hF.gr hs p.bl).2.2.2.2
  have hne : Nonempty (BlBy (w.alloc (.cells #[.string xn, .int .u8 4, .int .i64 xa, .int .i64 (j : Int), .int .i64 xd] 48))) := ⟨⟨_, Bl.refl _⟩⟩
  have g0 := fun p : BlBy (w.alloc (.cells #[.string xn, .int .u8 4, .int .i64 xa, .int .i64 (j : Int), .int .i64 xd] 48)) => (hT.gr hb1 p.bl).1
  have g1 := fun p : BlBy (w.alloc (.cells #[.string xn, .int .u8 4, .int .i64 xa, .int .i64 (j : Int), .int .i64 xd] 48)) => (hT.gr hb1 p.bl).2.1
  have g2 := fun p : BlBy (w.alloc (.cells #[.string xn, .int .u8 4, .int .i64 xa, .int .i64 (j : Int), .int .i64 xd] 48)) => (hT.gr hb1 p.bl).2.2
  simp only [Nat.zero_add] at f3 f4
  try dsimp only at f3 f4
  clear hx1 ht hq1 hq
  generalize isKindM t.fs xd 5 = q at k2 ⊢
  go_enter Try.func46, Try.ntmps46
  go_upto_region 7 with fail
  refine wp_region_bl (by kernel_rfl) (by kernel_rfl) ?_
  repeat (first
    | go_big_quiet_skip
    | (go_big_quiet_want; go_big_quiet_op; first
      | go_big_quiet_on
      | (apply Exists.intro
         refine ⟨fun p => ?_, ?_⟩
         · first
             | (go_at_call 73; exact calls_bl (k1 _ p.bl))
             | (go_at_call 74; exact calls_bl (k2 _ p.bl))
         go_big_quiet_on)))
  refine wpQuiet_nil ?_
  intro _ hw'
  obtain ⟨⟨wq, hq⟩, rfl⟩ := hw'
  go_wp2
  go_returns
  exact ⟨rfl, hb0.trans hq⟩
set_option maxHeartbeats 1000000 in
theorem hold_0 (p : Option Addr) (c : Nat) (L : List Ty) (x : Fd) (w : World) (hL : Tys w p L) (hx : x.ok) (h1 : x.k ≠ 1) (h2 : x.k ≠ 2) (h4 : x.k ≠ 4) : Calls Try.prog 46 #[.slice p L.length c, .agg #[.string x.n, .int .u8 x.k, .int .i64 x.a, .int .i64 x.o, .int .i64 x.d]] w fun e w' => e = .returned (.bool ((x.o == 0) && (x.d == 0))) ∧ Bl w w' := by
  have hb0 : Bl w (w.alloc (.cells x.cs 48)) := (Bl.refl w).alloc _
  have d1 : (x.k == 1) = false := by simpa using h1
  have d2 : (x.k == 2) = false := by simpa using h2
  have d4 : (x.k == 4) = false := by simpa using h4
  cases d0 : (x.o == 0)
  all_goals
    go_enter Try.func46, Try.ntmps46
    go_wp2
    go_returns
    exact ⟨by simp, hb0⟩
theorem hold_any (p : Option Addr) (c : Nat) (L : List Ty) (x : Fd) (w : World) (hL : Tys w p L) (hx : x.ok) : Calls Try.prog 46 #[.slice p L.length c, .agg #[.string x.n, .int .u8 x.k, .int .i64 x.a, .int .i64 x.o, .int .i64 x.d]] w fun e w' => e = .returned (.bool (holdM L x)) ∧ Bl w w' := by
  unfold holdM
  by_cases h1 : x.k = 1
  · rw [if_pos h1]; exact hold_1 p c L x w hL hx h1
  rw [if_neg h1]
  by_cases h2 : x.k = 2
  · rw [if_pos h2]
    cases ht : nthM L x.o with
    | none => exact hold_2n p c L x w hL hx h2 (by unfold isObjM; rw [ht])
    | some t =>
      cases ho : objM t.fs with
      | false => simp only [ho, Bool.false_and]; exact hold_2n p c L x w hL hx h2 (by unfold isObjM; rw [ht]; exact ho)
      | true => simp only [ho, Bool.true_and]; exact hold_2y p c L x w hL hx h2 t ht ho
  rw [if_neg h2]
  by_cases h4 : x.k = 4
  · rw [if_pos h4]
    cases ht : nthM L x.o with
    | none => exact hold_4n p c L x w hL hx h4 (by unfold isObjM; rw [ht])
    | some t =>
      cases ho : objM t.fs with
      | false => simp only [ho, Bool.false_and]; exact hold_4n p c L x w hL hx h4 (by unfold isObjM; rw [ht]; exact ho)
      | true => simp only [ho, Bool.true_and]; exact hold_4y p c L x w hL hx h4 t ht ho
  rw [if_neg h4]
  exact hold_0 p c L x w hL hx h1 h2 h4
end Go.Proofs.Ytmcjmdoeafhjpaa
