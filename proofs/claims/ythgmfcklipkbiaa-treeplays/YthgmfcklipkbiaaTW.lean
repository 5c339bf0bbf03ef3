/- Towards the statements of package tree (layer 16): the document's example. -/
import Derived.Test.YthgmfcklipkbiaaTX
import Derived.BigQuiet
import Derived.Lib.SmallJoins
import Derived.Stop.Joined
namespace Go.Proofs.Ythgmfcklipkbiaa
open Go.ChangeShapes Go.WideShapes Go.ChangeAt Go.RowKit
set_option linter.unusedVariables false
set_option linter.unusedSimpArgs false
set_option maxRecDepth 20000
structure BlBy (w : World) where
  wo : World
  bl : Below w.heap.size w wo
theorem wp_region_bl {P : Program} {id : Nat} {Q : Exit → Act → World → Prop} {a : Act} {w : World} {l : List Oper} (hm : P.follows .mixedOrders = true) (hB : Region.lexB .any l.toArray = true)
    (h : wpQuiet P l.toArray (fun w' => ∃ p : BlBy w, w' = p.wo) (fun a' => ∀ w', (∃ p : BlBy w, w' = p.wo) → Q .normal a' w') l a) : (Code.region id l.toArray true).wp P Q a w :=
  wp_region_quiet (C := fun w' => ∃ p : BlBy w, w' = p.wo) hm hB ⟨⟨w.drew, (Below.refl _ w).drew⟩, rfl⟩ (by simpa using h)
theorem calls_bl {P : Program} {f : FuncId} {args : Array Value} {w : World} {p : BlBy w} {v : Value} (h : Calls P f args p.wo fun e w' => e = .returned v ∧ Below p.wo.heap.size p.wo w') :
    Calls P f args p.wo fun e w' => e = .returned v ∧ ∃ q : BlBy w, w' = q.wo :=
  h.mono fun _ w' ⟨he, hg⟩ => ⟨he, ⟨w', p.bl.trans (hg.mono p.bl.size)⟩, rfl⟩
theorem calls_same {P : Program} {f : FuncId} {args : Array Value} {w : World} {p : BlBy w} {v : Value} (h : Calls P f args p.wo fun e w' => e = .returned v ∧ w' = p.wo) :
    Calls P f args p.wo fun e w' => e = .returned v ∧ ∃ q : BlBy w, w' = q.wo :=
  h.mono fun _ w' ⟨he, hg⟩ => ⟨he, p, hg⟩
theorem ins_bl {w : World} {B b : Nat} {K : List HKey} (h : Tk w B b K) (i : Int) (s : Int) (r : Int) (hr : insR K i (s, 1) = r) (h0 : r ≠ 0) :
    Calls Try.prog 13 #[.pointer (some ⟨b, 0, none⟩), .int .i64 i, .agg #[.int .i64 s, .int .u64 1]] w fun e w' => e = .returned (.int .i64 r) ∧ Below w.heap.size w w' := by
  obtain ⟨m, top, M, T, h1, rfl⟩ := h
  subst hr
  unfold insR at h0 ⊢
  rw [Tr.keys_len] at h0 ⊢
  by_cases hi : i < 0 ∨ (T.size : Int) < i
  · simp only [if_pos hi] at h0 ⊢
    exact tins_arg w B b m top M T h1 i hi (s, 1)
  · simp only [if_neg hi] at h0 ⊢
    by_cases hk : ((s, 1) : HKey) ∈ T.keys
    · simp only [if_pos hk] at h0 ⊢
      exact tins_in w B b m top M T h1 i (by omega) (by omega) (s, 1) hk
    · simp only [if_neg hk] at h0
      exact absurd rfl h0
theorem ins_w {w : World} {B b : Nat} {K : List HKey} (h : Tk w B b K) (i s r : Int) (K' : List HKey) (hl : K.length + 1 ≤ 2000) (hr : insR K i (s, 1) = r) (hK : insK K i (s, 1) = K') :
    Calls Try.prog 13 #[.pointer (some ⟨b, 0, none⟩), .int .i64 i, .agg #[.int .i64 s, .int .u64 1]] w fun e w' => e = .returned (.int .i64 r) ∧ Tk w' B b K' ∧ Ft B w w' := by
  subst hr hK
  exact ins_tk w B b K h hl i (s, 1)
set_option maxHeartbeats 4000000 in
theorem works_any (w : World) : Calls Try.prog 8 #[] w fun e w' => e = .returned (.bool true) ∧ Below w.heap.size w w' := by
  have k1 := new_tk w
  generalize hB0 : w.heap.size = B at k1 ⊢
  go_enter Try.func8, Try.ntmps8
  go_upto_region 2 with (go_at_call 9; refine k1.mono ?_; rintro e w1 ⟨b, rfl, h1, hb1⟩)
  clear k1
  go_upto_region 3 with (first
    | (go_at_call_of 18 (Value.int .i64 1); refine (one16 1 _).mono ?_; rintro e w2 ⟨rfl, hb2⟩; have h2 := h1.keep hb2; have k2 := ins_w h2 0 1 0 [(1, 1)] (by simp) (by decide) (by decide))
    | (go_at_call_of 13 (Value.agg #[.int .i64 1, .int .u64 1]); go_loud (refine k2.mono ?_; rintro e w3 ⟨rfl, h3, hF3⟩))
    | (go_at_call_of 18 (Value.int .i64 2); refine (one16 2 _).mono ?_; rintro e w4 ⟨rfl, hb4⟩; have h4 := h3.keep hb4; have k4 := ins_w h4 0 2 0 [(2, 1), (1, 1)] (by simp) (by decide) (by decide))
    | (go_at_call_of 13 (Value.agg #[.int .i64 2, .int .u64 1]); go_loud (refine k4.mono ?_; rintro e w5 ⟨rfl, h5, hF5⟩))
    | (go_at_call_of 18 (Value.int .i64 3); refine (one16 3 _).mono ?_; rintro e w6 ⟨rfl, hb6⟩; have h6 := h5.keep hb6; have k6 := ins_w h6 1 3 0 [(2, 1), (3, 1), (1, 1)] (by simp) (by decide) (by decide))
    | (go_at_call_of 13 (Value.agg #[.int .i64 3, .int .u64 1]); go_loud (refine k6.mono ?_; rintro e w7 ⟨rfl, h7, hF7⟩)))
  have e7 : Below B w w7 := (((hb1.trans (hb2.mono h1.size)).trans (hF3.bel.trans (hb4.mono h3.size))).trans (hF5.bel.trans (hb6.mono h5.size))).trans hF7.bel
  clear k2 k4 k6 h1 h2 h3 h4 h5 h6 hb1 hb2 hb4 hb6 hF3 hF5 hF7
  go_upto_region 4 with (first
    | (go_at_call 18; refine (one16 1 _).mono ?_; rintro e w8 ⟨rfl, hb8⟩; have h8 := h7.keep hb8; have k8 := idx_tk w8 B b _ h8 (1, 1))
    | (go_at_call 16; go_loud (refine k8.mono ?_; rintro e w9 ⟨rfl, hb9⟩)))
  have h9 := h8.keep hb9
  have e9 : Below B w w9 := e7.trans ((hb8.mono h7.size).trans (hb9.mono h8.size))
  have i2 : idxR [(2, 1), (3, 1), (1, 1)] (1, 1) = 2 := by decide
  have i3 : decide (((1, 1) : HKey) ∈ ([(2, 1), (3, 1), (1, 1)] : List HKey)) = true := by decide
  simp only [i2, i3]
  have kA : Calls Try.prog 15 #[.pointer (some ⟨b, 0, none⟩), .int .i64 1] w9 fun e w' => e = .returned (.tuple #[.agg #[.int .i64 3, .int .u64 1], .bool true]) ∧ Below w9.heap.size w9 w' := at_tk w9 B b _ h9 1
  clear k8 h8 hb8 hb9 h7 e7
  go_upto_region 5 with (go_at_call 15; go_loud (refine kA.mono ?_; rintro e w10 ⟨rfl, hb10⟩))
  have h11 := (h9.keep hb10).alloc (.cells #[.int .i64 3, .int .u64 1] 34)
  have za := heap_alloc_new w10 (.cells #[.int .i64 3, .int .u64 1] 34)
  have e11 : Below B w (w10.alloc (.cells #[.int .i64 3, .int .u64 1] 34)) := (e9.trans (hb10.mono h9.size)).alloc (h9.keep hb10).size _
  clear kA h9 hb10 e9
  generalize w10.alloc (.cells #[.int .i64 3, .int .u64 1] 34) = w11 at h11 za e11 ⊢
  generalize w10.heap.size = a at za ⊢
  have q1 := fun W => eqlH 3 3 1 1 W
  simp only [beq_self_eq_true, Bool.and_self] at q1
  have kO3 := fun p : BlBy w11 => one16 3 p.wo
  have kO4 := fun p : BlBy w11 => one16 4 p.wo
  have kI := fun p : BlBy w11 => ins_bl (h11.keep p.bl) 0 3 7 (by decide) (by decide)
  have kJ := fun p : BlBy w11 => ins_bl (h11.keep p.bl) 4 4 2 (by decide) (by decide)
  have kL := fun p : BlBy w11 => len_tk p.wo _ _ _ (h11.keep p.bl)
  have x0 := fun p : BlBy w11 => (p.bl.cell (p := ⟨a, 0, none⟩) (heap_lt za)).trans (by rw [cell_of za]; rfl : w11.cell? ⟨a, 0, none⟩ = some (.int .i64 3))
  have x1 := fun p : BlBy w11 => (p.bl.cell (p := ⟨a, 1, none⟩) (heap_lt za)).trans (by rw [cell_of za]; rfl : w11.cell? ⟨a, 1, none⟩ = some (.int .u64 1))
  simp only [List.length_cons, List.length_nil] at kL
  try dsimp only [List.append]
  try simp only [List.append_eq, List.cons_append, List.nil_append]
  have hne : Nonempty (BlBy w11) := ⟨⟨w11, Below.refl _ w11⟩⟩
  refine wp_region_bl (by kernel_rfl) (by kernel_rfl) ?_
  repeat (first
    | go_big_quiet_skip
    | (go_big_quiet_want; go_big_quiet_op; first
      | go_big_quiet_on
      | (apply Exists.intro
         refine ⟨fun p => ?_, ?_⟩
         · first
             | (go_at_call_of 18 (Value.int .i64 3); exact calls_bl (kO3 p))
             | (go_at_call_of 18 (Value.int .i64 4); exact calls_bl (kO4 p))
             | (go_at_call_of 13 (Value.agg #[.int .i64 3, .int .u64 1]); exact calls_bl (kI p))
             | (go_at_call_of 13 (Value.agg #[.int .i64 4, .int .u64 1]); exact calls_bl (kJ p))
             | (go_at_call 21; exact calls_same (kL p))
         go_big_quiet_on)))
  refine wpQuiet_nil ?_
  intro wq hw'
  obtain ⟨⟨wq2, hq⟩, e⟩ := hw'
  simp only at e
  subst e
  go_wp2
  all_goals go_returns
  all_goals exact ⟨rfl, e11.trans (hq.mono h11.size)⟩
end Go.Proofs.Ythgmfcklipkbiaa
