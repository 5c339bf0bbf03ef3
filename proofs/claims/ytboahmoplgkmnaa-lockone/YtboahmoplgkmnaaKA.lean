/- Towards the statements of package lock (layer 18): a lock in memory; its calls. -/
import Derived.Test.YtboahmoplgkmnaaRows
import Derived.WalkKit
import Derived.ProofKit
import Derived.OpenShut
import Derived.Below
import Derived.Carry
import Derived.MapKept
import Derived.Maps.OwnSet
import Derived.Maps.OwnOps
import Derived.Lib.SlKeysI
import Derived.Deep.RegionHeld3
import Derived.Deep.DeepCutAuto
import Derived.Deep.RegionWith
import Derived.Laws.EntriesVeiled
import Derived.Laws.StructEq
import Derived.Handy
import Derived.Deep.Draws
import Derived.Deep.QuietTactic
namespace Go.Proofs.Ytboahmoplgkmnaa
open Go.ChangeShapes Go.WideShapes Go.ChangeAt Go.RowKit
set_option linter.unusedVariables false
set_option linter.unusedSimpArgs false
set_option maxRecDepth 20000
set_option maxHeartbeats 4000000
theorem cell_of {w : World} {b : Nat} {cs : Array Value} {t : TypeId} (h : w.heap[b]? = some (.cells cs t (0, 0))) (k : Nat) : w.cell? ⟨b, k, none⟩ = cs[k]? := cell_of_row w b k cs t (0, 0) h
theorem froz_of {w : World} {b : Nat} {cs : Array Value} {t : TypeId} (h : w.heap[b]? = some (.cells cs t (0, 0))) (k : Nat) : w.frozen? ⟨b, k, none⟩ = false := by
  simp [World.frozen?, h]
theorem cell_lt {w : World} {p : Addr} {v : Value} (h : w.cell? p = some v) : p.block < w.heap.size := by
  by_cases e : p.block < w.heap.size
  · exact e
  · simp [World.cell?, e] at h
theorem heap_lt {w : World} {k : Nat} {o : Obj} (h : w.heap[k]? = some o) : k < w.heap.size := (Array.getElem?_eq_some_iff.1 h).1
abbrev ptr (x : Nat) : Value := .pointer (some ⟨x, 0, none⟩)
theorem zero38 (w : World) : (zeroValue 38).run Try.prog w = .ok (.agg #[.int .i64 0, .int .i64 0, .bool false]) w := by kernel_rfl
theorem zero40 (w : World) : (zeroValue 40).run Try.prog w = .ok (.agg #[.int .i64 0, .int .i64 0, .bool false, .int .u64 0, .bool false]) w := by kernel_rfl
theorem p0 (a b c : Value) (W : World) : (part 3 #[a, b, c] 0).run Try.prog W = .ok a W := by kernel_rfl
theorem p1 (a b c : Value) (W : World) : (part 3 #[a, b, c] 1).run Try.prog W = .ok b W := by kernel_rfl
theorem p2 (a b c : Value) (W : World) : (part 4 #[a, b, c] 2).run Try.prog W = .ok c W := by kernel_rfl
theorem fields38 : ∃ f0 f1 f2, (Try.prog.fieldsOf 38).toList = [f0, f1, f2] ∧ (f0.name ≠ "_" ∧ f0.type = 3 ∧ f0.offset = 0) ∧ (f1.name ≠ "_" ∧ f1.type = 3 ∧ f1.offset = 1) ∧ (f2.name ≠ "_" ∧ f2.type = 4 ∧ f2.offset = 2) := by
  have e : ((Try.prog.fieldsOf 38).toList.map fun f => (f.name == "_", f.type, f.offset)) = [(false, 3, 0), (false, 3, 1), (false, 4, 2)] := by kernel_rfl
  generalize (Try.prog.fieldsOf 38).toList = l at e ⊢
  rcases l with _ | ⟨f0, _ | ⟨f1, _ | ⟨f2, _ | ⟨f3, l⟩⟩⟩⟩
  · simp at e
  · simp at e
  · simp at e
  · simp at e
    exact ⟨f0, f1, f2, rfl, e.1, e.2.1, e.2.2⟩
  · simp at e
theorem run_equalIn_bool (W : World) (d : Nat) (p q : Bool) : (Op.equalIn (d + 1) 4 (.bool p) (.bool q)).run Try.prog W = .ok (p == q) W := by
  have h1 : Try.prog.stoodInHeld 4 = false := by kernel_rfl
  simp [Op.equalIn, run_underlying Try.underlying4, Result.andThen, h1]
theorem equalS (d : Nat) (a s : Int) (p : Bool) (b t : Int) (q : Bool) (W : World) : (Op.equalIn (d + 3) 38 (.agg #[.int .i64 a, .int .i64 s, .bool p]) (.agg #[.int .i64 b, .int .i64 t, .bool q])).run Try.prog W = .ok (decide (a = b ∧ s = t ∧ p = q)) W := by
  have h1 : Try.prog.underlying 38 = some (.struct (Try.prog.fieldsOf 38)) := by kernel_rfl
  have h2 : Try.prog.stoodInHeld 38 = false := by kernel_rfl
  rw [run_equalIn_agg W (d + 2) 38 _ _ h1 h2]
  obtain ⟨f0, f1, f2, e, ⟨a1, a2, a3⟩, ⟨b1, b2, b3⟩, ⟨c1, c2, c3⟩⟩ := fields38
  rw [e]
  simp only [Op.eqFields, a2, a3, b2, b3, c2, c3, Sem.run_bind, p0, p1, p2, Result.andThen_ok, run_equalIn_int W (d + 1) 3 .i64 .i64 _ _ Try.underlying3, if_pos a1, if_pos b1, if_pos c1, Sem.run_pure]
  by_cases e1 : a = b
  · subst e1
    simp only [beq_self_eq_true, Bool.not_true, Bool.false_eq_true, if_false]
    simp only [Sem.run_bind, p1, Result.andThen_ok, run_equalIn_int W (d + 1) 3 .i64 .i64 _ _ Try.underlying3, Sem.run_ite, Sem.run_pure]
    by_cases e2 : s = t
    · subst e2
      simp only [beq_self_eq_true, Bool.not_true, Bool.false_eq_true, if_false]
      simp only [Sem.run_bind, p2, Result.andThen_ok, run_equalIn_bool, Sem.run_ite, Sem.run_pure]
      by_cases e3 : p = q
      · subst e3; simp
      · simp [e3]
    · simp [e2]
  · simp [e1]
theorem eqlS (a s : Int) (p : Bool) (b t : Int) (q : Bool) (W : World) : (binOp .eql 38 (.agg #[.int .i64 a, .int .i64 s, .bool p]) (.agg #[.int .i64 b, .int .i64 t, .bool q])).run Try.prog W = .ok (.bool (decide (a = b ∧ s = t ∧ p = q))) W := by
  rw [run_eql_struct, equalS 9997]; rfl
/-- Block b is a lock: the value (m, s) is held, if q; n were given back. -/
def Lk (w : World) (b : Nat) (m s : Int) (q : Bool) (n : Nat) : Prop := w.heap[b]? = some (.cells #[.int .i64 m, .int .i64 s, .bool q, .int .u64 n, .bool true] 40 (0, 0))
/-- What a call leaves. -/
structure Fk (b : Nat) (w w' : World) : Prop where
  bel : Below b w w'
  keep : ∀ k, k < w.heap.size → k ≠ b → w'.heap[k]? = w.heap[k]?
theorem Fk.of {b : Nat} {w w' : World} (h : Below w.heap.size w w') (hb : b < w.heap.size) : Fk b w w' := ⟨h.mono (by omega), fun k hk _ => h.block k hk⟩
theorem Fk.trans {b : Nat} {w w' w'' : World} (h : Fk b w w') (k : Fk b w' w'') : Fk b w w'' :=
  ⟨h.bel.trans k.bel, fun i hi h1 => (k.keep i (Nat.lt_of_lt_of_le hi h.bel.size) h1).trans (h.keep i hi h1)⟩
theorem Fk.set {b : Nat} {w w' : World} (h : Fk b w w') (k : Nat) (u : Value) : Fk b w (w'.setCell ⟨b, k, none⟩ u) :=
  ⟨h.bel.setCell (p := ⟨b, k, none⟩) (Nat.le_refl _) u, fun i hi h1 => (Below.heap_setCell _ _ _ _ h1).trans (h.keep i hi h1)⟩
section
variable {w : World} {b : Nat} {m s : Int} {q : Bool} {n : Nat}
theorem Lk.lt (h : Lk w b m s q n) : b < w.heap.size := heap_lt h
theorem Lk.bel {w' : World} (h : Lk w b m s q n) (hb : Below w.heap.size w w') : Lk w' b m s q n := (hb.block _ h.lt).trans h
theorem Lk.fk (h : Lk w b m s q n) {w' : World} (hb : Below w.heap.size w w') : Fk b w w' := Fk.of hb h.lt
theorem Lk.c0 (h : Lk w b m s q n) : w.cell? ⟨b, 0, none⟩ = some (.int .i64 m) := by rw [cell_of h]; rfl
theorem Lk.c1 (h : Lk w b m s q n) : w.cell? ⟨b, 1, none⟩ = some (.int .i64 s) := by rw [cell_of h]; rfl
theorem Lk.c2 (h : Lk w b m s q n) : w.cell? ⟨b, 2, none⟩ = some (.bool q) := by rw [cell_of h]; rfl
theorem Lk.c3 (h : Lk w b m s q n) : w.cell? ⟨b, 3, none⟩ = some (.int .u64 n) := by rw [cell_of h]; rfl
theorem Lk.c4 (h : Lk w b m s q n) : w.cell? ⟨b, 4, none⟩ = some (.bool true) := by rw [cell_of h]; rfl
theorem Lk.f (h : Lk w b m s q n) (k : Nat) : w.frozen? ⟨b, k, none⟩ = false := froz_of h k
end
theorem bel_dN {B : Nat} {a w : World} (h : Below B a w) (k : Nat) : Below B a (w.drewN k) := ⟨h.os, h.tape, h.output, h.size, h.block⟩
theorem new_any (w : World) : Calls Try.prog 8 #[] w fun e w' => e = .returned (ptr w.heap.size) ∧ Lk w' w.heap.size 0 0 false 0 ∧ Below w.heap.size w w' := by
  have z := zero40 w
  go_enter Try.func8, Try.ntmps8
  go_wp2
  all_goals go_returns
  exact ⟨rfl, heap_alloc_new w _, (Below.refl _ w).alloc (Nat.le_refl _) _⟩
theorem made_nil (w : World) : Calls Try.prog 14 #[.pointer none] w fun e w' => e = .returned (.bool false) ∧ w' = w := by
  go_enter Try.func14, Try.ntmps14
  go_wp2
  all_goals go_returns
  all_goals exact ⟨rfl, rfl⟩
theorem made_yes (w : World) {b : Nat} {m s : Int} {q : Bool} {n : Nat} (h : Lk w b m s q n) : Calls Try.prog 14 #[ptr b] w fun e w' => e = .returned (.bool true) ∧ w' = w := by
  have c4 := h.c4
  clear h
  go_enter Try.func14, Try.ntmps14
  go_wp2
  all_goals go_returns
  all_goals exact ⟨rfl, rfl⟩
theorem taken_any (w : World) (a c : Int) : Calls Try.prog 15 #[.int .i64 a, .int .i64 c] w fun e w' => e = .returned (.agg #[.int .i64 a, .int .i64 c, .bool true]) ∧ Below w.heap.size w w' := by
  have z := fun W => zero38 W
  go_enter Try.func15, Try.ntmps15
  go_wp2
  all_goals go_returns
  all_goals exact ⟨rfl, (Below.refl _ w).alloc (Nat.le_refl _) _⟩
theorem cell_dr {w : World} {p : Addr} {v : Value} (h : w.cell? p = some v) : w.drew.cell? p = some v := h
theorem is_any (w : World) {b : Nat} {m s : Int} {q : Bool} {n : Nat} (h : Lk w b m s q n) (a c : Int) : Calls Try.prog 13 #[ptr b, .int .i64 a, .int .i64 c] w fun e w' => e = .returned (.bool (decide (m = a ∧ s = c ∧ q = true))) ∧ Below w.heap.size w w' := by
  have ht := fun W => taken_any W a c
  have he := fun W => eqlS m s q a c true W
  generalize decide (m = a ∧ s = c ∧ q = true) = r at he ⊢
  have hm := made_yes w.drew (show Lk w.drew b m s q n from h)
  have hd : Lk w.drew b m s q n := h
  have c0 := hd.c0
  have c1 := hd.c1
  have c2 := hd.c2
  go_enter Try.func13, Try.ntmps13
  go_upto_region 1 with fail
  go_region_held3 (fun w' => w'.cell? ⟨b, 0, none⟩ = some (.int .i64 m) ∧ w'.cell? ⟨b, 1, none⟩ = some (.int .i64 s) ∧ w'.cell? ⟨b, 2, none⟩ = some (.bool q)) ((refine ⟨?_, ?_, ?_⟩ <;> repeat (with_reducible (first | assumption | apply cell_dr)))) (first
    | (go_at_call 14; refine hm.mono ?_; rintro e _ ⟨rfl, rfl⟩)
    | (go_at_call 15; refine (ht _).mono ?_; rintro e v1 ⟨rfl, hb1⟩; have h1 := hd.bel hb1; have d0 := h1.c0; have d1 := h1.c1; have d2 := h1.c2))
  all_goals go_wp2
  all_goals go_returns
  all_goals exact ⟨rfl, (Below.refl _ _).drew.trans hb1⟩
theorem is_nil (w : World) (a c : Int) : Calls Try.prog 13 #[.pointer none, .int .i64 a, .int .i64 c] w fun e w' => e = .returned (.bool false) ∧ Below w.heap.size w w' := by
  go_enter Try.func13, Try.ntmps13
  go_upto_region 1 with fail
  go_quiet (first | (go_at_call 14; exact Calls.quiet_of_same (made_nil _)))
  go_wp2
  all_goals go_returns
  all_goals exact ⟨rfl, bel_dN (Below.refl _ _) _⟩
theorem held_any (w : World) {b : Nat} {m s : Int} {q : Bool} {n : Nat} (h : Lk w b m s q n) : Calls Try.prog 11 #[ptr b] w fun e w' => e = .returned (.tuple #[.int .i64 m, .int .i64 s, .bool q]) ∧ Below w.heap.size w w' := by
  have hm := made_yes w h
  have c0 := h.c0
  have c1 := h.c1
  have c2 := h.c2
  go_enter Try.func11, Try.ntmps11
  go_upto_region 3 with (go_at_call 14; refine hm.mono ?_; rintro e w1 ⟨rfl, hw⟩; rw [hw]; clear hw)
  go_quiet (fail)
  go_wp2
  all_goals go_returns
  all_goals exact ⟨rfl, bel_dN (Below.refl _ _) _⟩
theorem held_nil (w : World) : Calls Try.prog 11 #[.pointer none] w fun e w' => e = .returned (.tuple #[.int .i64 0, .int .i64 0, .bool false]) ∧ Below w.heap.size w w' := by
  have hm := made_nil w
  go_enter Try.func11, Try.ntmps11
  go_wp2_with (go_at_call 14; refine hm.mono ?_; rintro e w1 ⟨rfl, hw⟩; rw [hw]; clear hw)
  all_goals go_returns
  all_goals exact ⟨rfl, Below.refl _ _⟩
theorem epoch_any (w : World) {b : Nat} {m s : Int} {q : Bool} {n : Nat} (h : Lk w b m s q n) : Calls Try.prog 12 #[ptr b] w fun e w' => e = .returned (.int .u64 n) ∧ w' = w := by
  have hm := made_yes w h
  have c3 := h.c3
  go_enter Try.func12, Try.ntmps12
  go_wp2_with (go_at_call 14; refine hm.mono ?_; rintro e w1 ⟨rfl, hw⟩; rw [hw]; clear hw)
  all_goals go_returns
  all_goals exact ⟨rfl, rfl⟩
theorem epoch_nil (w : World) : Calls Try.prog 12 #[.pointer none] w fun e w' => e = .returned (.int .u64 0) ∧ w' = w := by
  have hm := made_nil w
  go_enter Try.func12, Try.ntmps12
  go_wp2_with (go_at_call 14; refine hm.mono ?_; rintro e w1 ⟨rfl, hw⟩; rw [hw]; clear hw)
  all_goals go_returns
  all_goals exact ⟨rfl, rfl⟩
theorem take_nil (w : World) (a c : Int) : Calls Try.prog 10 #[.pointer none, .int .i64 a, .int .i64 c] w fun e w' => e = .returned (.int .i64 1) ∧ w' = w := by
  have hm := made_nil w
  go_enter Try.func10, Try.ntmps10
  go_wp2_with (go_at_call 14; refine hm.mono ?_; rintro e w1 ⟨rfl, hw⟩; rw [hw]; clear hw)
  all_goals go_returns
  all_goals exact ⟨rfl, rfl⟩
theorem give_nil (w : World) (a c : Int) : Calls Try.prog 9 #[.pointer none, .int .i64 a, .int .i64 c] w fun e w' => e = .returned (.int .i64 1) ∧ w' = w := by
  have hm := made_nil w
  go_enter Try.func9, Try.ntmps9
  go_wp2_with (go_at_call 14; refine hm.mono ?_; rintro e w1 ⟨rfl, hw⟩; rw [hw]; clear hw)
  all_goals go_returns
  all_goals exact ⟨rfl, rfl⟩
theorem take_bad (w : World) {b : Nat} {m s : Int} {n : Nat} (h : Lk w b m s true n) (a c : Int) : Calls Try.prog 10 #[ptr b, .int .i64 a, .int .i64 c] w fun e w' => e = .returned (.int .i64 3) ∧ w' = w := by
  have hm := made_yes w h
  have c2 := h.c2
  go_enter Try.func10, Try.ntmps10
  go_wp2_with (go_at_call 14; refine hm.mono ?_; rintro e w1 ⟨rfl, hw⟩; rw [hw]; clear hw)
  all_goals go_returns
  all_goals exact ⟨rfl, rfl⟩
theorem Lk.set3 {w : World} {b : Nat} {m s : Int} {q : Bool} {n : Nat} (h : Lk w b m s q n) (a c : Int) : Lk (((w.setCell ⟨b, 0, none⟩ (.int .i64 a)).setCell ⟨b, 1, none⟩ (.int .i64 c)).setCell ⟨b, 2, none⟩ (.bool true)) b a c true n := by
  have h1 := heap_setCell_same w b 0 _ _ (.int .i64 a) h
  have h2 := heap_setCell_same _ b 1 _ _ (.int .i64 c) h1
  exact heap_setCell_same _ b 2 _ _ (.bool true) h2
theorem Lk.set5 {w : World} {b : Nat} {m s : Int} {q : Bool} {n : Nat} (h : Lk w b m s q n) (k : Nat) : Lk (((((w.setCell ⟨b, 0, none⟩ (.int .i64 0)).setCell ⟨b, 1, none⟩ (.int .i64 0)).setCell ⟨b, 2, none⟩ (.bool false)).setCell ⟨b, 3, none⟩ (.int .u64 k)).setCell ⟨b, 4, none⟩ (.bool true)) b 0 0 false k := by
  have h1 := heap_setCell_same w b 0 _ _ (.int .i64 0) h
  have h2 := heap_setCell_same _ b 1 _ _ (.int .i64 0) h1
  have h3 := heap_setCell_same _ b 2 _ _ (.bool false) h2
  have h4 := heap_setCell_same _ b 3 _ _ (.int .u64 k) h3
  exact heap_setCell_same _ b 4 _ _ (.bool true) h4
theorem take_ok (w : World) {b : Nat} {m s : Int} {n : Nat} (h : Lk w b m s false n) (a c : Int) : Calls Try.prog 10 #[ptr b, .int .i64 a, .int .i64 c] w fun e w' => e = .returned (.int .i64 0) ∧ Lk w' b a c true n ∧ Fk b w w' := by
  have hm := made_yes w h
  have c2 := h.c2
  go_enter Try.func10, Try.ntmps10
  go_upto_region 5 with (go_at_call 14; refine hm.mono ?_; rintro e w1 ⟨rfl, hw⟩; rw [hw]; clear hw)
  have ht := taken_any w a c
  go_wp2_with (go_at_call 15; refine ht.mono ?_; rintro e v1 ⟨rfl, hb1⟩; have h1 := h.bel hb1; have d0 := h1.c0; have d1 := h1.c1; have d2 := h1.c2; have f0 := h1.f 0; have f1 := h1.f 1; have f2 := h1.f 2)
  all_goals go_returns
  all_goals exact ⟨rfl, h1.set3 a c, (((h.fk hb1).set 0 _).set 1 _).set 2 _⟩
theorem give_bad (w : World) {b : Nat} {m s : Int} {q : Bool} {n : Nat} (h : Lk w b m s q n) (a c : Int) (hne : ¬ (m = a ∧ s = c ∧ q = true)) : Calls Try.prog 9 #[ptr b, .int .i64 a, .int .i64 c] w fun e w' => e = .returned (.int .i64 3) ∧ Below w.heap.size w w' := by
  have hm := made_yes w h
  have hi := is_any w h a c
  rw [decide_eq_false hne] at hi
  clear hne
  go_enter Try.func9, Try.ntmps9
  go_wp2_with (first | (go_at_call 14; refine hm.mono ?_; rintro e w1 ⟨rfl, hw⟩; rw [hw]; clear hw) | (go_at_call 13; refine hi.mono ?_; rintro e w1 ⟨rfl, hb1⟩))
  all_goals go_returns
  all_goals exact ⟨rfl, hb1⟩
theorem give_ok (w : World) {b : Nat} {m s : Int} {n : Nat} (h : Lk w b m s true n) (hn : n < 18446744073709551615) : Calls Try.prog 9 #[ptr b, .int .i64 m, .int .i64 s] w fun e w' => e = .returned (.int .i64 0) ∧ Lk w' b 0 0 false (n + 1) ∧ Fk b w w' := by
  have hm := made_yes w h
  have hi := is_any w h m s
  rw [decide_eq_true ⟨rfl, rfl, rfl⟩] at hi
  have z := zero40
  have ew : IntKind.u64.wrap ((n : Int) + 1) = (n : Int) + 1 := IntWalk.u64_in _ (by omega)
  clear hn
  go_enter Try.func9, Try.ntmps9
  go_upto_region 5 with (first | (go_at_call 14; refine hm.mono ?_; rintro e w1 ⟨rfl, hw⟩; rw [hw]; clear hw) | (go_at_call 13; refine hi.mono ?_; rintro e v1 ⟨rfl, hb1⟩))
  have h1 := h.bel hb1
  have d3 := h1.c3
  have f0 := h1.f 0
  have f1 := h1.f 1
  have f2 := h1.f 2
  have f3 := h1.f 3
  have f4 := h1.f 4
  have d0 := h1.c0
  have d1 := h1.c1
  have d2 := h1.c2
  have d4 := h1.c4
  go_wp2
  all_goals go_returns
  have h2 := h1.set5 (n + 1)
  rw [show ((n + 1 : Nat) : Int) = (n : Int) + 1 by omega] at h2
  exact ⟨rfl, h2, (((((h.fk hb1).set 0 _).set 1 _).set 2 _).set 3 _).set 4 _⟩
end Go.Proofs.Ytboahmoplgkmnaa
