/- Towards the statements of package handle (layer 13): a table in memory; Of, Lives. -/
import Derived.Test.YtooblonafnlfcaaDoorSO
import Derived.Deep.RegionHeld3
import Derived.Deep.DeepCutAuto
import Derived.Deep.RegionWith
import Derived.Laws.EntriesVeiled
import Derived.Laws.StructEq
import Derived.Handy
namespace Go.Proofs.YtooblonafnlfcaaDoor.H
open Go.ChangeShapes Go.WideShapes Go.ChangeAt Go.RowKit
set_option linter.unusedVariables false
set_option linter.unusedSimpArgs false
set_option maxRecDepth 20000
/-- A handle as a value. -/
def hdV (s : Int) (g : Nat) : Value := .agg #[.int .i64 s, .int .u64 g]
/-- A table at block b, its maps at m1 and m2: the last number of each slot, the handle of each slot that lives. -/
structure Tb (w : World) (B b m1 m2 : Nat) (N : Int → Nat) (L : Int → Option Nat) (n : Nat) : Prop where
  cells : w.heap[b]? = some (.cells #[.map (some m1), .map (some m2)] 104 (0, 0))
  bB : B ≤ b
  b1 : B ≤ m1
  b2 : B ≤ m2
  ne : m1 ≠ m2
  nb : n ≤ 1000000
  im1 : ∃ F, IM w m1 n F ∧ ∀ k, (F k).getD (.int .u64 0) = .int .u64 (N k)
  im2 : IM w m2 n (fun k => (L k).map (hdV k))
  bd : ∀ k, N k ≤ n
  gen : ∀ k g, L k = some g → 1 ≤ g ∧ g ≤ N k ∧ 0 ≤ k
theorem cell_of {w : World} {b : Nat} {cs : Array Value} {t : TypeId} (h : w.heap[b]? = some (.cells cs t (0, 0))) (k : Nat) : w.cell? ⟨b, k, none⟩ = cs[k]? := cell_of_row w b k cs t (0, 0) h
theorem froz_of {w : World} {b : Nat} {cs : Array Value} {t : TypeId} (h : w.heap[b]? = some (.cells cs t (0, 0))) (k : Nat) : w.frozen? ⟨b, k, none⟩ = false := by
  simp [World.frozen?, h]
theorem cell_lt {w : World} {p : Addr} {v : Value} (h : w.cell? p = some v) : p.block < w.heap.size := by
  by_cases e : p.block < w.heap.size
  · exact e
  · simp [World.cell?, e] at h
theorem cell_al {w : World} {p : Addr} {v : Value} (h : w.cell? p = some v) (o : Obj) : (w.alloc o).cell? p = some v := (((Below.refl _ w).alloc (Nat.le_refl _) _).cell (cell_lt h)).trans h
theorem heap_lt {w : World} {k : Nat} {o : Obj} (h : w.heap[k]? = some o) : k < w.heap.size := (Array.getElem?_eq_some_iff.1 h).1
theorem Tb.below {w w' : World} {B b m1 m2 : Nat} {N : Int → Nat} {L : Int → Option Nat} {n : Nat} (h : Tb w B b m1 m2 N L n) (hb : Below w.heap.size w w') : Tb w' B b m1 m2 N L n := by
  obtain ⟨F, hF, hF2⟩ := h.im1
  exact ⟨(hb.block _ (heap_lt h.cells)).trans h.cells, h.bB, h.b1, h.b2, h.ne, h.nb, ⟨F, hF.keep (hb.block _ hF.lt), hF2⟩, h.im2.keep (hb.block _ h.im2.lt), h.bd, h.gen⟩
theorem Tb.drew {w : World} {B b m1 m2 : Nat} {N : Int → Nat} {L : Int → Option Nat} {n : Nat} (h : Tb w B b m1 m2 N L n) : Tb w.drew B b m1 m2 N L n := h.below (Below.refl _ _).drew
theorem made_nil (w : World) : Calls Tryd.prog 58 #[.pointer none] w fun e w' => e = .returned (.bool false) ∧ w' = w := by
  go_enter Tryd.func58, Tryd.ntmps58
  go_wp2
  all_goals go_returns
  all_goals exact ⟨rfl, rfl⟩
theorem nem_some (m : Nat) (W : World) : (binOp .neq 102 (.map (some m)) (.map none)).run Tryd.prog W = .ok (.bool true) W := by kernel_rfl
theorem made_yes (w : World) (b m : Nat) (h0 : w.cell? ⟨b, 1, none⟩ = some (.map (some m))) : Calls Tryd.prog 58 #[.pointer (some ⟨b, 0, none⟩)] w fun e w' => e = .returned (.bool true) ∧ w' = w := by
  have e1 := nem_some m w
  go_enter Tryd.func58, Tryd.ntmps58
  go_wp2
  all_goals go_returns
  all_goals exact ⟨rfl, rfl⟩
theorem zero34 (w : World) : (zeroValue 34).run Tryd.prog w = .ok (.agg #[.int .i64 0, .int .u64 0]) w := by kernel_rfl
theorem zero30 (w : World) : (zeroValue 32).run Tryd.prog w = .ok (.int .u64 0) w := by kernel_rfl
theorem part0 (a b : Value) (W : World) : (part 3 #[a, b] 0).run Tryd.prog W = .ok a W := by kernel_rfl
theorem part1 (a b : Value) (W : World) : (part 32 #[a, b] 1).run Tryd.prog W = .ok b W := by kernel_rfl
theorem fields34 : ∃ f0 f1, (Tryd.prog.fieldsOf 34).toList = [f0, f1] ∧ (f0.name ≠ "_" ∧ f0.type = 3 ∧ f0.offset = 0) ∧ (f1.name ≠ "_" ∧ f1.type = 32 ∧ f1.offset = 1) := by
  have e : ((Tryd.prog.fieldsOf 34).toList.map fun f => (f.name == "_", f.type, f.offset)) = [(false, 3, 0), (false, 32, 1)] := by kernel_rfl
  generalize (Tryd.prog.fieldsOf 34).toList = l at e ⊢
  rcases l with _ | ⟨f0, _ | ⟨f1, _ | ⟨f2, l⟩⟩⟩
  · simp at e
  · simp at e
  · simp at e
    exact ⟨f0, f1, rfl, e.1, e.2⟩
  · simp at e
theorem equalH (d : Nat) (a s b g : Int) (W : World) : (Op.equalIn (d + 2) 34 (.agg #[.int .i64 a, .int .u64 b]) (.agg #[.int .i64 s, .int .u64 g])).run Tryd.prog W = .ok (a == s && b == g) W := by
  have h1 : Tryd.prog.underlying 34 = some (.struct (Tryd.prog.fieldsOf 34)) := by kernel_rfl
  have h2 : Tryd.prog.stoodInHeld 34 = false := by kernel_rfl
  rw [run_equalIn_agg W (d + 1) 34 _ _ h1 h2]
  obtain ⟨f0, f1, e, ⟨a1, a2, a3⟩, ⟨b1, b2, b3⟩⟩ := fields34
  rw [e]
  simp only [Op.eqFields, a2, a3, b2, b3, Sem.run_bind, part0, part1, Result.andThen_ok, run_equalIn_int W d 3 .i64 .i64 a s Tryd.underlying3, run_equalIn_int W d 32 .u64 .u64 b g Tryd.underlying32, if_pos a1, if_pos b1, Sem.run_pure]
  by_cases e1 : a = s
  · subst e1
    simp only [beq_self_eq_true, Bool.not_true, Bool.false_eq_true, if_false, Bool.true_and]
    simp only [Sem.run_bind, part1, Result.andThen_ok, run_equalIn_int W d 32 .u64 .u64 b g Tryd.underlying32, Sem.run_ite, Sem.run_pure]
    by_cases e2 : b = g
    · subst e2; simp
    · simp [e2]
  · simp [e1]
theorem eqlH (a s b g : Int) (W : World) : (binOp .eql 34 (.agg #[.int .i64 a, .int .u64 b]) (.agg #[.int .i64 s, .int .u64 g])).run Tryd.prog W = .ok (.bool (a == s && b == g)) W := by
  rw [run_eql_struct, equalH 9998]; rfl
theorem neqH (a s b g : Int) (W : World) : (binOp .neq 34 (.agg #[.int .i64 a, .int .u64 b]) (.agg #[.int .i64 s, .int .u64 g])).run Tryd.prog W = .ok (.bool (!(a == s && b == g))) W := by
  rw [run_neq_struct, equalH 9998]; rfl
/-- What Of answers. -/
def ofM (L : Int → Option Nat) (s : Int) : Array Value := match L s with
  | some g => #[hdV s g, .bool true]
  | none => #[hdV 0 0, .bool false]
theorem of_nil (s : Int) (w : World) : Calls Tryd.prog 59 #[.pointer none, .int .i64 s] w fun e w' => e = .returned (.tuple #[hdV 0 0, .bool false]) ∧ Below w.heap.size w w' := by
  have k1 := fun W => made_nil W
  go_enter Tryd.func59, Tryd.ntmps59
  go_wp2_with (go_at_call 58; refine (k1 _).mono ?_; rintro e w' ⟨rfl, hw⟩; rw [hw]; clear hw)
  all_goals go_returns
  all_goals exact ⟨rfl, (Below.refl _ w).alloc (Nat.le_refl _) _⟩
theorem of_any (w : World) (B b m1 m2 : Nat) (N : Int → Nat) (L : Int → Option Nat) (n : Nat) (h : Tb w B b m1 m2 N L n) (s : Int) :
    Calls Tryd.prog 59 #[.pointer (some ⟨b, 0, none⟩), .int .i64 s] w fun e w' => e = .returned (.tuple (ofM L s)) ∧ Below w.heap.size w w' := by
  have hc := h.cells
  have hl := heap_lt hc
  have c1 : w.cell? ⟨b, 1, none⟩ = some (.map (some m2)) := by rw [cell_of hc]; rfl
  have k1 := made_yes (w.alloc (.cells #[.int .i64 0, .int .u64 0] 34)) b m2 ((((Below.refl _ w).alloc (Nat.le_refl _) _).cell hl).trans c1)
  unfold ofM
  cases e : L s with
  | none =>
    have l1 := IM.look_no Tryd.underlying102 Tryd.underlying3 (h.im2.alloc (.cells #[.int .i64 0, .int .u64 0] 34)) (k := s) (by simp [e]) (zero34 _)
    go_enter Tryd.func59, Tryd.ntmps59
    go_wp2_with (go_at_call 58; refine k1.mono ?_; rintro e w' ⟨rfl, hw⟩; rw [hw]; clear hw)
    all_goals go_returns
    all_goals exact ⟨rfl, ((Below.refl _ w).alloc (Nat.le_refl _) _).alloc (by simp) _⟩
  | some g =>
    have l1 := IM.look_yes Tryd.underlying102 Tryd.underlying3 (h.im2.alloc (.cells #[.int .i64 0, .int .u64 0] 34)) (k := s) (v := hdV s g) (by simp [e])
    unfold hdV at l1
    go_enter Tryd.func59, Tryd.ntmps59
    go_wp2_with (go_at_call 58; refine k1.mono ?_; rintro e w' ⟨rfl, hw⟩; rw [hw]; clear hw)
    all_goals go_returns
    all_goals exact ⟨rfl, ((Below.refl _ w).alloc (Nat.le_refl _) _).alloc (by simp) _⟩
theorem beqN (a b : Nat) : ((a : Int) == (b : Int)) = (some a == some b) := by
  by_cases e : a = b
  · subst e; simp
  · rw [show ((a : Int) == (b : Int)) = false by simp; omega, show (some a == some b) = false by simp; omega]
theorem lives_nil (s g : Int) (w : World) : Calls Tryd.prog 66 #[.pointer none, .agg #[.int .i64 s, .int .u64 g]] w fun e w' => e = .returned (.bool false) ∧ Below w.heap.size w w' := by
  have k1 := fun W => of_nil s W
  go_enter Tryd.func66, Tryd.ntmps66
  go_wp2_with (go_at_call 59; refine (k1 _).mono ?_; unfold hdV; rintro e w1 ⟨rfl, hB⟩)
  all_goals go_returns
  all_goals exact ⟨rfl, (((Below.refl _ w).alloc (Nat.le_refl _) _).trans (hB.mono (by simp))).alloc (by have := hB.size; simp at this; omega) _⟩
theorem lives_any (w : World) (B b m1 m2 : Nat) (N : Int → Nat) (L : Int → Option Nat) (n : Nat) (h : Tb w B b m1 m2 N L n) (s : Int) (g : Nat) :
    Calls Tryd.prog 66 #[.pointer (some ⟨b, 0, none⟩), .agg #[.int .i64 s, .int .u64 g]] w fun e w' => e = .returned (.bool (L s == some g)) ∧ Below w.heap.size w w' := by
  have k1 := of_any (w.alloc (.cells #[.int .i64 s, .int .u64 g] 34)) B b m1 m2 N L n (h.below ((Below.refl _ w).alloc (Nat.le_refl _) _)) s
  unfold ofM at k1
  cases e : L s with
  | none =>
    simp only [e] at k1
    go_enter Tryd.func66, Tryd.ntmps66
    go_wp2_with (go_at_call 59; refine k1.mono ?_; unfold hdV; rintro e w1 ⟨rfl, hB⟩)
    all_goals go_returns
    all_goals exact ⟨rfl, (((Below.refl _ w).alloc (Nat.le_refl _) _).trans (hB.mono (by simp))).alloc (by have := hB.size; simp at this; omega) _⟩
  | some g' =>
    simp only [e] at k1
    have q1 := fun W => eqlH s s g' g W
    go_enter Tryd.func66, Tryd.ntmps66
    go_upto_region 2 with (go_at_call 59; refine k1.mono ?_; unfold hdV; rintro e w1 ⟨rfl, hB⟩)
    have a0 : w1.cell? ⟨w.heap.size, 0, none⟩ = some (.int .i64 s) := (hB.cell (by simp)).trans (by simp)
    have a1 : w1.cell? ⟨w.heap.size, 1, none⟩ = some (.int .u64 g) := (hB.cell (by simp)).trans (by simp)
    have b0 := cell_al a0 (.cells #[.int .i64 s, .int .u64 g'] 34)
    have b1 := cell_al a1 (.cells #[.int .i64 s, .int .u64 g'] 34)
    clear k1
    go_wp2
    all_goals go_returns
    all_goals exact ⟨(show Ending.returned (.bool ((g' : Int) == (g : Int))) = .returned (.bool (some g' == some g)) by rw [beqN]), (((Below.refl _ w).alloc (Nat.le_refl _) _).trans (hB.mono (by simp))).alloc (by have := hB.size; simp at this; omega) _⟩
end Go.Proofs.YtooblonafnlfcaaDoor.H
