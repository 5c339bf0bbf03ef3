/- Towards the statements of package list (layer 15): the document's example; arguments read as before. -/
import Derived.Test.YtefhcdnilbojkaaLJ
import Derived.BigQuiet
import Derived.Lib.SmallJoins
import Derived.Stop.Joined
namespace Go.Proofs.Ytefhcdnilbojkaa
open Go.ChangeShapes Go.WideShapes Go.ChangeAt Go.RowKit
set_option linter.unusedVariables false
set_option linter.unusedSimpArgs false
set_option maxRecDepth 20000
structure BlBy (w : World) where
  wo : World
  bl : Below w.heap.size w wo
theorem wp_region_bl {P : Program} {id : Nat} {Q : Exit → Act → World → Prop} {a : Act} {w : World} {l : List Oper} (hm : P.follows .mixedOrders = true) (hB : Region.lexB .any l.toArray = true)
    (h : wpQuiet P l.toArray (fun w' => ∃ p : BlBy w, w' = p.wo) (fun a' => ∀ w', (∃ p : BlBy w, w' = p.wo) → Q .normal a' w') l a) : (Code.region id l.toArray true).wp P Q a w :=
  wp_region_quiet (C := fun w' => ∃ p : BlBy w, w' = p.wo) hm hB ⟨⟨w.drew, (Below.refl _ w).drew⟩, rfl⟩ (by simpa using h)
theorem calls_bl {P : Program} {f : FuncId} {args : Array Value} {w : World} {p : BlBy w} {v : Value} (h : Calls P f args p.wo fun e w' => e = .returned v ∧ Below p.wo.heap.size p.wo w') :
    Calls P f args p.wo fun e w' => e = .returned v ∧ ∃ q : BlBy w, w' = q.wo :=
  h.mono fun _ w' ⟨he, hg⟩ => ⟨he, ⟨w', p.bl.trans (hg.mono p.bl.size)⟩, rfl⟩
theorem calls_same {P : Program} {f : FuncId} {args : Array Value} {w : World} {p : BlBy w} {v : Value} (h : Calls P f args p.wo fun e w' => e = .returned v ∧ w' = p.wo) :
    Calls P f args p.wo fun e w' => e = .returned v ∧ ∃ q : BlBy w, w' = q.wo :=
  h.mono fun _ w' ⟨he, hg⟩ => ⟨he, p, hg⟩
theorem one1 (w : World) : Calls Try.prog 22 #[.int .u8 1] w fun e w' => e = .returned (.agg #[.int .i64 1, .int .u64 1]) ∧ Below w.heap.size w w' := one_any 1 (by omega) w
theorem one2 (w : World) : Calls Try.prog 22 #[.int .u8 2] w fun e w' => e = .returned (.agg #[.int .i64 2, .int .u64 1]) ∧ Below w.heap.size w w' := one_any 2 (by omega) w
theorem push_w {w : World} {B b : Nat} {K : List HKey} {S : List Nat} (h : Li w B b K S) (s : Int) (q : Bool) (r : Int) (K' : List HKey) (hr : (if ((s, 1) : HKey) ∈ K then (7 : Int) else 0) = r) (hK : pushM K (s, 1) q = K') :
    Calls Try.prog 19 #[.pointer (some ⟨b, 0, none⟩), .agg #[.int .i64 s, .int .u64 1], .bool q] w fun e w' => e = .returned (.int .i64 r) ∧ ∃ S', Li w' B b K' S' ∧ FL B S S' w w' := by
  subst hr hK
  exact push_li w B b K S h (s, 1) q
theorem peek_w {w : World} {B b : Nat} {K : List HKey} {S : List Nat} (h : Li w B b K S) (q : Bool) (s : Int) (he : endM K q = some (s, 1)) :
    Calls Try.prog 16 #[.pointer (some ⟨b, 0, none⟩), .bool q] w fun e w' => e = .returned (.tuple #[.agg #[.int .i64 s, .int .u64 1], .bool true]) ∧ Below w.heap.size w w' := by
  have := peek_li w B b K S h q
  rw [he] at this
  exact this
theorem next_w {w : World} {B b : Nat} {K : List HKey} {S : List Nat} (h : Li w B b K S) (s t : Int) (he : nextM K (s, 1) = some (t, 1)) :
    Calls Try.prog 18 #[.pointer (some ⟨b, 0, none⟩), .agg #[.int .i64 s, .int .u64 1]] w fun e w' => e = .returned (.tuple #[.agg #[.int .i64 t, .int .u64 1], .bool true]) ∧ Below w.heap.size w w' := by
  have := next_li w B b K S h (s, 1)
  rw [he] at this
  exact this
theorem pop_w {w : World} {B b : Nat} {K : List HKey} {S : List Nat} (h : Li w B b K S) (q : Bool) (s : Int) (K' : List HKey) (he : endM K q = some (s, 1)) (hK : popM K q = K') :
    Calls Try.prog 21 #[.pointer (some ⟨b, 0, none⟩), .bool q] w fun e w' => e = .returned (.tuple #[.agg #[.int .i64 s, .int .u64 1], .bool true]) ∧ ∃ S', Li w' B b K' S' ∧ FL B S S' w w' := by
  subst hK
  have := pop_li w B b K S h q
  rw [he] at this
  exact this
set_option maxHeartbeats 4000000 in
theorem works_any (w : World) : Calls Try.prog 8 #[] w fun e w' => e = .returned (.bool true) ∧ Below w.heap.size w w' := by
  have k1 := new_li w
  generalize hB0 : w.heap.size = B at k1 ⊢
  go_enter Try.func8, Try.ntmps8
  go_upto_region 2 with (go_at_call 9; refine k1.mono ?_; rintro e w1 ⟨b, S, rfl, h1, hb1⟩)
  clear k1
  go_upto_region 3 with (first
    | (go_at_call_of 22 (Value.int .u8 1); refine (one1 _).mono ?_; rintro e w2 ⟨rfl, hb2⟩; have h2 := h1.bel hb2; have k2 := push_w h2 1 false 0 [(1, 1)] (by decide) (by decide))
    | (go_at_call_of 19 (Value.agg #[.int .i64 1, .int .u64 1]); go_loud (refine k2.mono ?_; rintro e w3 ⟨rfl, S3, h3, hF3⟩))
    | (go_at_call_of 22 (Value.int .u8 2); refine (one2 _).mono ?_; rintro e w4 ⟨rfl, hb4⟩; have h4 := h3.bel hb4; have k4 := push_w h4 2 true 0 [(2, 1), (1, 1)] (by decide) (by decide))
    | (go_at_call_of 19 (Value.agg #[.int .i64 2, .int .u64 1]); go_loud (refine k4.mono ?_; rintro e w5 ⟨rfl, S5, h5, hF5⟩)))
  have e5 : Below B w w5 := ((hb1.trans (hb2.mono h1.size)).trans (hF3.bel.trans (hb4.mono h3.size))).trans hF5.bel
  clear k2 k4 h1 h2 h3 h4 hb1 hb2 hb4 hF3 hF5
  go_upto_region 4 with (first
    | (go_at_call 22; refine (one1 _).mono ?_; rintro e w6 ⟨rfl, hb6⟩; have h6 := h5.bel hb6; have k6 := push_w h6 1 true 7 [(2, 1), (1, 1)] (by decide) (by decide))
    | (go_at_call 19; go_loud (refine k6.mono ?_; rintro e w7 ⟨rfl, S7, h7, hF7⟩)))
  have e7 : Below B w w7 := (e5.trans (hb6.mono h5.size)).trans hF7.bel
  have k7 := peek_w h7 true 2 (by decide)
  clear k6 h6 hb6 hF7 h5 e5
  go_upto_region 5 with (go_at_call 16; go_loud (refine k7.mono ?_; rintro e w8 ⟨rfl, hb8⟩))
  have h9 := (h7.bel hb8).alloc (.cells #[.int .i64 2, .int .u64 1] 32)
  have za := heap_alloc_new w8 (.cells #[.int .i64 2, .int .u64 1] 32)
  have e9 : Below B w (w8.alloc (.cells #[.int .i64 2, .int .u64 1] 32)) := (e7.trans (hb8.mono h7.size)).alloc (h7.bel hb8).size _
  have la : B ≤ w8.heap.size := (h7.bel hb8).size
  have hSa : ∀ x ∈ S7, x < w8.heap.size := fun x hx => ((h7.bel hb8).lt x hx).2
  clear k7 h7 hb8 e7
  generalize w8.alloc (.cells #[.int .i64 2, .int .u64 1] 32) = w9 at h9 za e9 ⊢
  generalize w8.heap.size = a at za la hSa ⊢
  have k10 := fun W hb => next_w (h9.bel (w' := W) hb) 2 1 (by decide)
  go_upto_region 6 with (first
    | (go_at_call 22; refine (one2 _).mono ?_; rintro e w10 ⟨rfl, hb10⟩)
    | (go_at_call 18; go_loud (refine (k10 _ hb10).mono ?_; rintro e w11 ⟨rfl, hb11⟩)))
  have hbb : Below w9.heap.size w9 w11 := hb10.trans (hb11.mono hb10.size)
  have h12 := (h9.bel hbb).alloc (.cells #[.int .i64 1, .int .u64 1] 32)
  have zb := heap_alloc_new w11 (.cells #[.int .i64 1, .int .u64 1] 32)
  have za2 := heap_al ((hbb.block _ (heap_lt za)).trans za) (.cells #[.int .i64 1, .int .u64 1] 32)
  have e12 : Below B w (w11.alloc (.cells #[.int .i64 1, .int .u64 1] 32)) := (e9.trans (hbb.mono h9.size)).alloc (h9.bel hbb).size _
  have hSb : ∀ x ∈ S7, x < w11.heap.size := fun x hx => ((h9.bel hbb).lt x hx).2
  clear k10 h9 hb10 hb11 e9 hbb za
  generalize w11.alloc (.cells #[.int .i64 1, .int .u64 1] 32) = w12 at h12 zb za2 e12 ⊢
  generalize w11.heap.size = c at zb hSb ⊢
  have k12 := pop_w h12 false 1 [(2, 1)] (by decide) (by decide)
  go_upto_region 7 with (go_at_call 21; go_loud (refine k12.mono ?_; rintro e w13 ⟨rfl, S13, h13, hF13⟩))
  have za3 := heap_al ((hF13.keep _ (heap_lt za2) (fun q => by have := hSa _ q; omega)).trans za2) (.cells #[.int .i64 1, .int .u64 1] 32)
  have zb3 := heap_al ((hF13.keep _ (heap_lt zb) (fun q => by have := hSb _ q; omega)).trans zb) (.cells #[.int .i64 1, .int .u64 1] 32)
  have zc3 := heap_alloc_new w13 (.cells #[.int .i64 1, .int .u64 1] 32)
  have h14 := h13.alloc (.cells #[.int .i64 1, .int .u64 1] 32)
  have e14 : Below B w (w13.alloc (.cells #[.int .i64 1, .int .u64 1] 32)) := (e12.trans hF13.bel).alloc h13.size _
  clear k12 h13 hF13 e12 h12 za2 zb
  generalize w13.alloc (.cells #[.int .i64 1, .int .u64 1] 32) = w14 at za3 zb3 zc3 h14 e14 ⊢
  generalize w13.heap.size = d at zc3 ⊢
  have q1 := fun W => eqlH 2 2 1 1 W
  have q2 := fun W => eqlH 1 1 1 1 W
  simp only [beq_self_eq_true, Bool.and_self] at q1 q2
  have kO1 := fun p : BlBy w14 => one1 p.wo
  have kO2 := fun p : BlBy w14 => one2 p.wo
  have kL := fun p : BlBy w14 => len_li p.wo _ _ _ _ (h14.bel p.bl)
  have x0 := fun p : BlBy w14 => (p.bl.cell (p := ⟨a, 0, none⟩) (heap_lt za3)).trans (by rw [cell_of za3]; rfl : w14.cell? ⟨a, 0, none⟩ = some (.int .i64 2))
  have x1 := fun p : BlBy w14 => (p.bl.cell (p := ⟨a, 1, none⟩) (heap_lt za3)).trans (by rw [cell_of za3]; rfl : w14.cell? ⟨a, 1, none⟩ = some (.int .u64 1))
  have y0 := fun p : BlBy w14 => (p.bl.cell (p := ⟨c, 0, none⟩) (heap_lt zb3)).trans (by rw [cell_of zb3]; rfl : w14.cell? ⟨c, 0, none⟩ = some (.int .i64 1))
  have y1 := fun p : BlBy w14 => (p.bl.cell (p := ⟨c, 1, none⟩) (heap_lt zb3)).trans (by rw [cell_of zb3]; rfl : w14.cell? ⟨c, 1, none⟩ = some (.int .u64 1))
  have z0 := fun p : BlBy w14 => (p.bl.cell (p := ⟨d, 0, none⟩) (heap_lt zc3)).trans (by rw [cell_of zc3]; rfl : w14.cell? ⟨d, 0, none⟩ = some (.int .i64 1))
  have z1 := fun p : BlBy w14 => (p.bl.cell (p := ⟨d, 1, none⟩) (heap_lt zc3)).trans (by rw [cell_of zc3]; rfl : w14.cell? ⟨d, 1, none⟩ = some (.int .u64 1))
  try simp only [List.append_eq, List.cons_append, List.nil_append]
  have hne : Nonempty (BlBy w14) := ⟨⟨w14, Below.refl _ w14⟩⟩
  refine wp_region_bl (by kernel_rfl) (by kernel_rfl) ?_
  repeat (first
    | go_big_quiet_skip
    | (go_big_quiet_want; go_big_quiet_op; first
      | go_big_quiet_on
      | (apply Exists.intro
         refine ⟨fun p => ?_, ?_⟩
         · first
             | (go_at_call_of 22 (Value.int .u8 1); exact calls_bl (kO1 p))
             | (go_at_call_of 22 (Value.int .u8 2); exact calls_bl (kO2 p))
             | (go_at_call 13; exact calls_same (kL p))
         go_big_quiet_on)))
  refine wpQuiet_nil ?_
  intro wq hw'
  obtain ⟨⟨wq2, hq⟩, e⟩ := hw'
  simp only at e
  subst e
  go_wp2
  all_goals go_returns
  all_goals exact ⟨rfl, e14.trans (hq.mono h14.size)⟩
end Go.Proofs.Ytefhcdnilbojkaa
