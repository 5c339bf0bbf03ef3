/- Towards the statements of package list (layer 15): handles as values, rows of handles, maps from handles. -/
import Derived.Test.YthgpbbpmfpfjnaaMI
import Derived.Deep.RegionHeld3
import Derived.Deep.DeepCutAuto
import Derived.Deep.RegionWith
import Derived.Laws.EntriesVeiled
import Derived.Laws.StructEq
import Derived.Laws.AppendOwnNone
import Derived.Handy
import Derived.Deep.Draws
namespace Go.Proofs.Ythgpbbpmfpfjnaa
open Go.ChangeShapes Go.WideShapes Go.ChangeAt Go.RowKit
set_option linter.unusedVariables false
set_option linter.unusedSimpArgs false
set_option maxRecDepth 20000
theorem cell_of {w : World} {b : Nat} {cs : Array Value} {t : TypeId} (h : w.heap[b]? = some (.cells cs t (0, 0))) (k : Nat) : w.cell? ⟨b, k, none⟩ = cs[k]? := cell_of_row w b k cs t (0, 0) h
theorem froz_of {w : World} {b : Nat} {cs : Array Value} {t : TypeId} (h : w.heap[b]? = some (.cells cs t (0, 0))) (k : Nat) : w.frozen? ⟨b, k, none⟩ = false := by
  simp [World.frozen?, h]
theorem cell_lt {w : World} {p : Addr} {v : Value} (h : w.cell? p = some v) : p.block < w.heap.size := by
  by_cases e : p.block < w.heap.size
  · exact e
  · simp [World.cell?, e] at h
theorem cell_al {w : World} {p : Addr} {v : Value} (h : w.cell? p = some v) (o : Obj) : (w.alloc o).cell? p = some v := (((Below.refl _ w).alloc (Nat.le_refl _) _).cell (cell_lt h)).trans h
theorem heap_lt {w : World} {k : Nat} {o : Obj} (h : w.heap[k]? = some o) : k < w.heap.size := (Array.getElem?_eq_some_iff.1 h).1
theorem zero34 (w : World) : (zeroValue 31).run Try.prog w = .ok (.agg #[.int .i64 0, .int .u64 0]) w := by kernel_rfl
theorem zero30 (w : World) : (zeroValue 29).run Try.prog w = .ok (.int .u64 0) w := by kernel_rfl
theorem part0 (a b : Value) (W : World) : (part 3 #[a, b] 0).run Try.prog W = .ok a W := by kernel_rfl
theorem part1 (a b : Value) (W : World) : (part 29 #[a, b] 1).run Try.prog W = .ok b W := by kernel_rfl
theorem fields34 : ∃ f0 f1, (Try.prog.fieldsOf 31).toList = [f0, f1] ∧ (f0.name ≠ "_" ∧ f0.type = 3 ∧ f0.offset = 0) ∧ (f1.name ≠ "_" ∧ f1.type = 29 ∧ f1.offset = 1) := by
  have e : ((Try.prog.fieldsOf 31).toList.map fun f => (f.name == "_", f.type, f.offset)) = [(false, 3, 0), (false, 29, 1)] := by kernel_rfl
  generalize (Try.prog.fieldsOf 31).toList = l at e ⊢
  rcases l with _ | ⟨f0, _ | ⟨f1, _ | ⟨f2, l⟩⟩⟩
  · simp at e
  · simp at e
  · simp at e
    exact ⟨f0, f1, rfl, e.1, e.2⟩
  · simp at e
theorem equalH (d : Nat) (a s b g : Int) (W : World) : (Op.equalIn (d + 2) 31 (.agg #[.int .i64 a, .int .u64 b]) (.agg #[.int .i64 s, .int .u64 g])).run Try.prog W = .ok (a == s && b == g) W := by
  have h1 : Try.prog.underlying 31 = some (.struct (Try.prog.fieldsOf 31)) := by kernel_rfl
  have h2 : Try.prog.stoodInHeld 31 = false := by kernel_rfl
  rw [run_equalIn_agg W (d + 1) 31 _ _ h1 h2]
  obtain ⟨f0, f1, e, ⟨a1, a2, a3⟩, ⟨b1, b2, b3⟩⟩ := fields34
  rw [e]
  simp only [Op.eqFields, a2, a3, b2, b3, Sem.run_bind, part0, part1, Result.andThen_ok, run_equalIn_int W d 3 .i64 .i64 a s Try.underlying3, run_equalIn_int W d 29 .u64 .u64 b g Try.underlying29, if_pos a1, if_pos b1, Sem.run_pure]
  by_cases e1 : a = s
  · subst e1
    simp only [beq_self_eq_true, Bool.not_true, Bool.false_eq_true, if_false, Bool.true_and]
    simp only [Sem.run_bind, part1, Result.andThen_ok, run_equalIn_int W d 29 .u64 .u64 b g Try.underlying29, Sem.run_ite, Sem.run_pure]
    by_cases e2 : b = g
    · subst e2; simp
    · simp [e2]
  · simp [e1]
theorem eqlH (a s b g : Int) (W : World) : (binOp .eql 31 (.agg #[.int .i64 a, .int .u64 b]) (.agg #[.int .i64 s, .int .u64 g])).run Try.prog W = .ok (.bool (a == s && b == g)) W := by
  rw [run_eql_struct, equalH 9998]; rfl
theorem neqH (a s b g : Int) (W : World) : (binOp .neq 31 (.agg #[.int .i64 a, .int .u64 b]) (.agg #[.int .i64 s, .int .u64 g])).run Try.prog W = .ok (.bool (!(a == s && b == g))) W := by
  rw [run_neq_struct, equalH 9998]; rfl
theorem turn_size {w w' : World} {m : Nat} (h : w.mapTurned w' m) : w'.heap.size = w.heap.size := by
  obtain ⟨es, c, es', c', hb, rfl⟩ := h
  exact Array.size_setIfInBounds
theorem put2 {W : World} {z : Nat} {a b : Value} {t : TypeId} (h : W.heap[z]? = some (.cells #[a, b] t (0, 0))) (c d : Value) :
    (W.setCell ⟨z, 0, none⟩ c).cell? ⟨z, 0, none⟩ = some c ∧ (W.setCell ⟨z, 0, none⟩ c).cell? ⟨z, 1, none⟩ = some b ∧ ((W.setCell ⟨z, 0, none⟩ c).setCell ⟨z, 1, none⟩ d).cell? ⟨z, 0, none⟩ = some c ∧ ((W.setCell ⟨z, 0, none⟩ c).setCell ⟨z, 1, none⟩ d).cell? ⟨z, 1, none⟩ = some d := by
  have h1 := heap_setCell_same W z 0 _ _ c h
  have h2 := heap_setCell_same _ z 1 _ _ d h1
  exact ⟨by rw [cell_of h1]; rfl, by rw [cell_of h1]; rfl, by rw [cell_of h2]; rfl, by rw [cell_of h2]; rfl⟩
theorem heap_al {w : World} {z : Nat} {o : Obj} (h : w.heap[z]? = some o) (x : Obj) : (w.alloc x).heap[z]? = some o := (Below.heap_alloc _ _ _ (heap_lt h)).trans h
/-- Handles as cells. -/
def hCells : List (Int × Nat) → List Value
  | [] => []
  | (s, g) :: l => .int .i64 s :: .int .u64 g :: hCells l
theorem hCells_len : ∀ l : List (Int × Nat), (hCells l).length = l.length * 2
  | [] => rfl
  | (s, g) :: l => by simp [hCells, hCells_len l]; omega
theorem hCells_app : ∀ l m : List (Int × Nat), hCells (l ++ m) = hCells l ++ hCells m
  | [], m => rfl
  | (s, g) :: l, m => by simp [hCells, hCells_app l m]
theorem hCells_at : ∀ (l : List (Int × Nat)) (j : Nat) (x : Int × Nat), l[j]? = some x → (hCells l)[j * 2]? = some (.int .i64 x.1) ∧ (hCells l)[j * 2 + 1]? = some (.int .u64 x.2)
  | [], j, x, h => by simp at h
  | (s, g) :: l, 0, x, h => by simp at h; subst h; simp [hCells]
  | (s, g) :: l, j + 1, x, h => by
    have := hCells_at l j x (by simpa using h)
    rw [show (j + 1) * 2 = j * 2 + 1 + 1 by omega]
    simpa [hCells] using this
theorem hCells_one : ∀ l : List (Int × Nat), ∀ u ∈ hCells l, u.oneCell' = true
  | [], u, h => by simp [hCells] at h
  | (s, g) :: l, u, h => by
    simp only [hCells, List.mem_cons] at h
    rcases h with rfl | rfl | h
    · rfl
    · rfl
    · exact hCells_one l u h
theorem info_parts {P : Program} {t : TypeId} {z : Value} {a b : Nat} (h : (P.info? t).map (fun i => (i.zero, i.size, i.bytes)) = some (some z, a, b)) : ∃ i, P.info? t = some i ∧ i.zero = some z ∧ i.size = a ∧ i.bytes = b := by
  cases hi : P.info? t with
  | none => rw [hi] at h; cases h
  | some i => rw [hi] at h; simp at h; exact ⟨i, rfl, h.1, h.2.1, h.2.2⟩
theorem info34 : (Try.prog.info? 31).map (fun i => (i.zero, i.size, i.bytes)) = some (some (.agg #[.int .i64 0, .int .u64 0]), 2, 16) := by kernel_rfl
theorem news_new (w : World) (cs : List Value) (t : TypeId) (g : Nat) (hg : g = w.heap.size) : ∀ (j : Nat) (u : Value), cs[j]? = some u → (w.alloc (.cells cs.toArray t)).cell? ((⟨g, 0, none⟩ : Addr).add j) = some u := by
  subst hg
  intro j u hu
  rw [show (⟨w.heap.size, 0, none⟩ : Addr).add j = ⟨w.heap.size, j, none⟩ by unfold Addr.add; split <;> simp_all]
  rw [cell_of_row _ _ _ cs.toArray t (0, 0) (heap_alloc_new w _)]
  simpa using hu
theorem own_shape {w : World} {B t sz n : Nat} {v : Value} {xs : List Value} (h : w.ownsRow B t sz v n xs) : ∃ p cap, v = .slice p n cap := by
  rcases h.2 with ⟨e, h⟩ | ⟨g, cap, cur, e, _⟩
  · subst h; exact ⟨_, _, e⟩
  · exact ⟨_, cap, e⟩
theorem row_base {w : World} {B B' t sz n : Nat} {v : Value} {xs : List Value} (h : w.ownsRow B t sz v n xs) (hB : B' ≤ B) : w.ownsRow B' t sz v n xs := by
  refine ⟨h.1, ?_⟩
  rcases h.2 with e | ⟨g, cap, cur, e, h1, h2⟩
  · exact .inl e
  · exact .inr ⟨g, cap, cur, e, by omega, h2⟩
abbrev HKey := Int × Nat
def hK (k : HKey) : Value := .agg #[.int .i64 k.1, .int .u64 k.2]
theorem hK_inj {a b : HKey} (h : hK a = hK b) : a = b := by
  simp [hK] at h
  exact Prod.ext h.1 (by omega)
theorem equalK (a b : HKey) (W : World) : (Op.equal 31 (hK a) (hK b)).run Try.prog W = .ok (decide (a = b)) W := by
  show (Op.equalIn 10000 31 _ _).run Try.prog W = _
  unfold hK
  rw [equalH 9998]
  congr 1
  by_cases e : a = b
  · subst e; simp
  · rw [decide_eq_false e]
    by_cases e1 : a.1 = b.1
    · have : a.2 ≠ b.2 := fun e2 => e (Prod.ext e1 e2)
      simp; intro _; omega
    · simp [e1]
theorem askH (k : HKey) : ∀ (l : List MapEntry) (i : Nat), (∀ x ∈ l, ∃ k', x.key = hK k') →
    ((∀ W, (Instr.findAsking 31 (hK k) l i).run Try.prog W = .ok none W) ∧ ∀ x ∈ l, x.key ≠ hK k) ∨ ∃ j e, (∀ W, (Instr.findAsking 31 (hK k) l i).run Try.prog W = .ok (some (i + j, e.val)) W) ∧ l[j]? = some e ∧ e.key = hK k
  | [], i, _ => .inl ⟨fun W => rfl, by simp⟩
  | e :: l, i, h => by
    obtain ⟨k', hk'⟩ := h e (.head _)
    by_cases he : k = k'
    · subst he
      refine .inr ⟨0, e, fun W => ?_, rfl, hk'⟩
      simp [Instr.findAsking, hk', equalK, Result.andThen]
    · have hne : e.key ≠ hK k := fun q => he (hK_inj (q.symm.trans hk'))
      rcases askH k l (i + 1) (fun x hx => h x (.tail _ hx)) with ⟨h1, h2⟩ | ⟨j, e', h1, h2, h3⟩
      · exact .inl ⟨fun W => by simp [Instr.findAsking, hk', equalK, he, h1, Result.andThen], fun x hx => by
          cases hx with
          | head => exact hne
          | tail _ hx => exact h2 x hx⟩
      · exact .inr ⟨j + 1, e', fun W => by simp [Instr.findAsking, hk', equalK, he, h1, Result.andThen]; omega, by simpa using h2, h3⟩
theorem findH (k : HKey) (l : List MapEntry) (h : ∀ x ∈ l, ∃ k', x.key = hK k') :
    ((∀ W, (Instr.findKey 31 (hK k) l).run Try.prog W = .ok none W) ∧ ∀ x ∈ l, x.key ≠ hK k) ∨ ∃ j e, (∀ W, (Instr.findKey 31 (hK k) l).run Try.prog W = .ok (some (j, e.val)) W) ∧ l[j]? = some e ∧ e.key = hK k := by
  cases l with
  | nil => exact .inl ⟨fun W => by simp [Instr.findKey, run_underlying Try.underlying31, Result.andThen, Instr.findNow], by simp⟩
  | cons e l =>
    have h0 : ∀ d, d = Try.prog.fieldsOf 31 → Instr.findNow (.struct d) (hK k) (e :: l) 0 = none := by
      intro d _
      simp [Instr.findNow, Instr.sameNow]
    have hrun : ∀ W, (Instr.findKey 31 (hK k) (e :: l)).run Try.prog W = (Instr.findAsking 31 (hK k) (e :: l) 0).run Try.prog W := fun W => by
      have h1 : Try.prog.underlying 31 = some (.struct (Try.prog.fieldsOf 31)) := by kernel_rfl
      simp [Instr.findKey, run_underlying h1, Result.andThen, h0]
    rcases askH k (e :: l) 0 h with ⟨h1, h2⟩ | ⟨j, e', h1, h2, h3⟩
    · exact .inl ⟨fun W => (hrun W).trans (h1 W), h2⟩
    · exact .inr ⟨j, e', fun W => (hrun W).trans (by rw [h1 W]; simp), h2, h3⟩
theorem checkH (q : Bool) (k : HKey) (W : World) : (Instr.checkKey q 10000 31 (hK k)).run Try.prog W = .ok () W := by
  unfold hK
  kernel_rfl
theorem staysH (k : HKey) (W : World) : (Instr.keyThatStays (hK k) (hK k)).run Try.prog W = .ok (hK k) W := by
  have : Instr.sameBits 10000 (hK k) (hK k) = true := by simp [Instr.sameBits, hK]
  simp [Instr.keyThatStays, this]
/-- Block m is a map of at most n entries, from whole numbers, that has F. -/
def HM (w : World) (m n : Nat) (F : HKey → Option Value) : Prop :=
  ∃ es clock, w.heap[m]? = some (.map es clock) ∧ MapKept.Stamped es clock ∧ es.size ≤ n ∧ (∀ x ∈ es.toList, ∃ k, x.key = hK k ∧ True) ∧ ∀ k v, F k = some v ↔ ∃ x ∈ es.toList, x.key = hK k ∧ x.val = v
def updH (F : HKey → Option Value) (k : HKey) (x : Option Value) : HKey → Option Value := fun s => if s = k then x else F s
theorem updH_self (F : HKey → Option Value) (k : HKey) (x : Option Value) : updH F k x k = x := by simp [updH]
theorem updH_ne (F : HKey → Option Value) {k s : HKey} (x : Option Value) (h : s ≠ k) : updH F k x s = F s := by simp [updH, h]
theorem HM.new (w : World) : HM (w.alloc (.map #[] 0)) w.heap.size 0 (fun _ => none) :=
  ⟨#[], 0, (MapKept.heap_alloc w _).1, MapKept.stamped_empty 0, Nat.le_refl _, by simp, by simp⟩
theorem HM.keep {w w' : World} {m n : Nat} {F : HKey → Option Value} (h : HM w m n F) (e : w'.heap[m]? = w.heap[m]?) : HM w' m n F := by
  obtain ⟨es, c, h1, h2⟩ := h
  exact ⟨es, c, e.trans h1, h2⟩
theorem HM.lt {w : World} {m n : Nat} {F : HKey → Option Value} (h : HM w m n F) : m < w.heap.size := by
  obtain ⟨es, c, h1, h2⟩ := h
  exact (Array.getElem?_eq_some_iff.1 h1).1
theorem HM.mono {w : World} {m n n' : Nat} {F : HKey → Option Value} (h : HM w m n F) (e : n ≤ n') : HM w m n' F := by
  obtain ⟨es, c, h1, h2, h3, h4⟩ := h
  exact ⟨es, c, h1, h2, by omega, h4⟩
theorem HM.alloc {w : World} {m n : Nat} {F : HKey → Option Value} (h : HM w m n F) (o : Obj) : HM (w.alloc o) m n F := h.keep ((MapKept.heap_alloc w o).2 _ h.lt)
theorem HM.find {w : World} {m n : Nat} {F : HKey → Option Value} (h : HM w m n F) (k : HKey) : ∃ es c, w.heap[m]? = some (.map es c) ∧
    ((F k = none ∧ (∀ W, (Instr.findKey 31 (hK k) es.toList).run Try.prog W = .ok none W) ∧ ∀ x ∈ es.toList, x.key ≠ hK k) ∨ ∃ j e, F k = some e.val ∧ (∀ W, (Instr.findKey 31 (hK k) es.toList).run Try.prog W = .ok (some (j, e.val)) W) ∧ es[j]? = some e ∧ e.key = hK k) ∧
    MapKept.Stamped es c ∧ es.size ≤ n ∧ (∀ x ∈ es.toList, ∃ k, x.key = hK k ∧ True) ∧ ∀ k v, F k = some v ↔ ∃ x ∈ es.toList, x.key = hK k ∧ x.val = v := by
  obtain ⟨es, c, h1, h2, h3, h4, h5⟩ := h
  refine ⟨es, c, h1, ?_, h2, h3, h4, h5⟩
  rcases findH k es.toList (fun x hx => by obtain ⟨k', e, _⟩ := h4 x hx; exact ⟨k', e⟩) with ⟨a, b⟩ | ⟨j, e, a, b, d⟩
  · refine .inl ⟨?_, a, b⟩
    cases hF : F k with
    | none => rfl
    | some v =>
      obtain ⟨x, hx, hk, _⟩ := (h5 k v).1 hF
      exact absurd hk (b x hx)
  · have hj : es[j]? = some e := by simpa using b
    exact .inr ⟨j, e, (h5 k _).2 ⟨e, Array.mem_toList_iff.2 (Array.mem_of_getElem? hj), d, rfl⟩, a, hj, d⟩
section
variable {t et : TypeId} (ht : Try.prog.underlying t = some (.map 31 et)) {w : World} {m n : Nat} {F : HKey → Option Value}
include ht
theorem HM.look_yes (h : HM w m n F) {k : HKey} {v : Value} (e : F k = some v) : (Instr.lookup t (.map (some m)) (hK k) true).run Try.prog w = .ok (.tuple #[v, .bool true]) w := by
  obtain ⟨es, c, hb, hf, _⟩ := h.find k
  rcases hf with ⟨a, _⟩ | ⟨j, x, a, b, _⟩
  · rw [a] at e; cases e
  rw [a] at e
  cases e
  have hc : ∀ q, (Instr.checkKey q 10000 31 (hK k)).run Try.prog w = .ok () w := fun q => checkH q k w
  have hf := b w
  simp [Instr.lookup, run_underlying ht, MapKept.run_getObj_map hb, hc, hf, Result.andThen]
theorem HM.look_no (h : HM w m n F) {k : HKey} (e : F k = none) {z : Value} (hz : (zeroValue et).run Try.prog w = .ok z w) : (Instr.lookup t (.map (some m)) (hK k) true).run Try.prog w = .ok (.tuple #[z, .bool false]) w := by
  obtain ⟨es, c, hb, hf, _⟩ := h.find k
  rcases hf with ⟨a, b, _⟩ | ⟨j, x, a, b, _⟩
  · have hc : ∀ q, (Instr.checkKey q 10000 31 (hK k)).run Try.prog w = .ok () w := fun q => checkH q k w
    have hf := b w
    simp [Instr.lookup, run_underlying ht, MapKept.run_getObj_map hb, hc, hf, hz, Result.andThen]
  · rw [a] at e; cases e
theorem HM.look1 (h : HM w m n F) (k : HKey) {z : Value} (hz : (zeroValue et).run Try.prog w = .ok z w) : (Instr.lookup t (.map (some m)) (hK k) false).run Try.prog w = .ok ((F k).getD z) w := by
  obtain ⟨es, c, hb, hf, _⟩ := h.find k
  have hc : ∀ q, (Instr.checkKey q 10000 31 (hK k)).run Try.prog w = .ok () w := fun q => checkH q k w
  rcases hf with ⟨a, b, _⟩ | ⟨j, x, a, b, _⟩
  · have hf := b w
    simp [Instr.lookup, run_underlying ht, MapKept.run_getObj_map hb, hc, hf, hz, a, Result.andThen]
  · have hf := b w
    simp [Instr.lookup, run_underlying ht, MapKept.run_getObj_map hb, hc, hf, a, Result.andThen]
theorem HM.put (h : HM w m n F) {k : HKey} (hi : True) (v : Value) : ∃ w', (Instr.mapUpdate t (.map (some m)) (hK k) v).run Try.prog w = .ok () w' ∧ HM w' m (n + 1) (updH F k (some v)) ∧ w.mapTurned w' m := by
  obtain ⟨es, c, hb, hf, h2, h3, h4, h5⟩ := h.find k
  have hc : ∀ q, (Instr.checkKey q 10000 31 (hK k)).run Try.prog w = .ok () w := fun q => checkH q k w
  rcases hf with ⟨a, b, d⟩ | ⟨j, x, a, b, d, f⟩
  · have hf := b w
    refine ⟨_, by simp [Instr.mapUpdate, run_underlying ht, MapKept.run_getObj_map hb, hc, hf, MapKept.run_setObj_map _ hb, Result.andThen]; rfl, ?_, es, c, _, _, hb, rfl⟩
    refine ⟨_, _, (MapKept.heap_set hb).1, MapKept.stamped_push h2 d, by simp; omega, ?_, fun k' v' => ?_⟩
    · intro x hx
      simp only [Array.toList_push, List.mem_append, List.mem_singleton] at hx
      rcases hx with hx | rfl
      · exact h4 x hx
      · exact ⟨k, rfl, trivial⟩
    · by_cases e : k' = k
      · subst e
        rw [updH_self]
        constructor
        · intro e; cases e; exact ⟨⟨hK k', v, c⟩, by simp, rfl, rfl⟩
        · rintro ⟨x, hx, e1, e2⟩
          simp only [Array.toList_push, List.mem_append, List.mem_singleton] at hx
          rcases hx with hx | rfl
          · exact absurd e1 (d x hx)
          · rw [← e2]
      · rw [updH_ne _ _ e, h5]
        constructor
        · rintro ⟨x, hx, e1, e2⟩; exact ⟨x, by simp; left; simpa using hx, e1, e2⟩
        · rintro ⟨x, hx, e1, e2⟩
          simp only [Array.toList_push, List.mem_append, List.mem_singleton] at hx
          rcases hx with hx | rfl
          · exact ⟨x, hx, e1, e2⟩
          · have e1' := hK_inj e1; exact absurd e1'.symm e
  · have hf := b w
    have hks : (Instr.keyThatStays (hK k) (hK k)).run Try.prog w = .ok (hK k) w := staysH k w
    refine ⟨_, by simp [Instr.mapUpdate, run_underlying ht, MapKept.run_getObj_map hb, hc, hf, d, f, hks, MapKept.run_setObj_map _ hb, Result.andThen]; rfl, ?_, es, c, _, _, hb, rfl⟩
    have hkey : ∀ e', es[j]? = some e' → ({ e' with key := hK k, val := v } : MapEntry).key = e'.key := fun e' he' => by rw [d] at he'; cases he'; exact f.symm
    have hmem : ∀ y, y ∈ (es.modify j fun e => { e with key := hK k, val := v }).toList ↔ ∃ i e, es[i]? = some e ∧ y = if i = j then { e with key := hK k, val := v } else e := by
      intro y
      rw [List.mem_iff_getElem?]
      constructor
      · rintro ⟨i, hi⟩
        rw [Array.getElem?_toList, Array.getElem?_modify] at hi
        split at hi
        · rename_i e
          obtain ⟨e0, h0, h1⟩ := Option.map_eq_some_iff.1 hi
          exact ⟨i, e0, h0, by rw [if_pos e.symm]; exact h1.symm⟩
        · rename_i e
          exact ⟨i, y, hi, by rw [if_neg (Ne.symm e)]⟩
      · rintro ⟨i, e, h0, h1⟩
        refine ⟨i, ?_⟩
        rw [Array.getElem?_toList, Array.getElem?_modify, h0]
        by_cases e2 : i = j
        · rw [if_pos e2.symm]; rw [if_pos e2] at h1; rw [h1]; rfl
        · rw [if_neg (Ne.symm e2)]; rw [if_neg e2] at h1; rw [h1]
    refine ⟨_, _, (MapKept.heap_set hb).1, MapKept.stamped_modify h2 _ _ (fun _ _ => rfl) (fun e' _ he' => hkey e' he'), by simp; omega, ?_, fun k' v' => ?_⟩
    · intro y hy
      obtain ⟨i, e, h0, h1⟩ := (hmem y).1 hy
      split at h1
      · subst h1; exact ⟨k, rfl, trivial⟩
      · subst h1; exact h4 _ (Array.mem_toList_iff.2 (Array.mem_of_getElem? h0))
    · by_cases e : k' = k
      · subst e
        rw [updH_self]
        constructor
        · intro e; cases e; exact ⟨_, (hmem _).2 ⟨j, x, d, by rw [if_pos rfl]⟩, rfl, rfl⟩
        · rintro ⟨y, hy, e1, e2⟩
          obtain ⟨i, e, h0, h1⟩ := (hmem y).1 hy
          split at h1
          · subst h1; rw [← e2]
          · rename_i hne
            subst h1
            refine absurd ?_ hne
            have hx := entry_one h2 (Array.mem_toList_iff.2 (Array.mem_of_getElem? h0)) (Array.mem_toList_iff.2 (Array.mem_of_getElem? d)) (e1.trans f.symm)
            subst hx
            have hnd := h2.2.2
            have hlt := (Array.getElem?_eq_some_iff.1 h0).1
            refine (List.getElem?_inj (l := es.toList.map (·.key)) (by simpa using hlt) hnd).1 ?_
            simp [h0, d]
      · rw [updH_ne _ _ e, h5]
        constructor
        · rintro ⟨y, hy, e1, e2⟩
          obtain ⟨i, hi⟩ := List.mem_iff_getElem?.1 hy
          have hi' : es[i]? = some y := by simpa using hi
          have hne : i ≠ j := by
            rintro rfl
            rw [hi'] at d; cases d
            rw [f] at e1; have e1' := hK_inj e1; exact e e1'.symm
          exact ⟨y, (hmem y).2 ⟨i, y, hi', by rw [if_neg hne]⟩, e1, e2⟩
        · rintro ⟨y, hy, e1, e2⟩
          obtain ⟨i, e0, h0, h1⟩ := (hmem y).1 hy
          split at h1
          · subst h1; have e1' := hK_inj e1; exact absurd e1'.symm e
          · subst h1; exact ⟨_, Array.mem_toList_iff.2 (Array.mem_of_getElem? h0), e1, e2⟩
theorem HM.del (h : HM w m n F) (k : HKey) (ty : TypeId) : ∃ w', (Builtin.delete_ #[t, 31] ty #[.map (some m), hK k]).run Try.prog w = .ok (.tuple #[]) w' ∧ HM w' m n (updH F k none) ∧ w.mapTurned w' m := by
  obtain ⟨es, c, hb, hf, h2, h3, h4, h5⟩ := h.find k
  have hc : ∀ q, (Instr.checkKey q 10000 31 (hK k)).run Try.prog w = .ok () w := fun q => checkH q k w
  rcases hf with ⟨a, b, d⟩ | ⟨j, x, a, b, d, f⟩
  · have hf := b w
    refine ⟨_, by simp [Builtin.delete_, run_underlying ht, MapKept.run_getObj_map hb, hc, hf, MapKept.run_setObj_map _ hb, Result.andThen]; rfl, ?_, es, c, _, _, hb, rfl⟩
    refine ⟨_, _, (MapKept.heap_set hb).1, h2, h3, h4, fun k' v' => ?_⟩
    by_cases e : k' = k
    · subst e
      rw [updH_self]
      constructor
      · intro e; cases e
      · rintro ⟨x, hx, e1, e2⟩; exact absurd e1 (d x hx)
    · rw [updH_ne _ _ e, h5]
  · have hf := b w
    have hlt := (Array.getElem?_eq_some_iff.1 d).1
    refine ⟨_, by simp [Builtin.delete_, run_underlying ht, MapKept.run_getObj_map hb, hc, hf, MapKept.run_setObj_map _ hb, Result.andThen]; rfl, ?_, es, c, _, _, hb, rfl⟩
    have hse := MapKept.stamped_erase h2 j
    have ee : (es.eraseIdxIfInBounds j).toList = es.toList.eraseIdx j := by simp [Array.eraseIdxIfInBounds, hlt]
    have hsub : ∀ y ∈ (es.eraseIdxIfInBounds j).toList, y ∈ es.toList := fun y hy => by rw [ee] at hy; exact (List.eraseIdx_sublist _ _).subset hy
    refine ⟨_, _, (MapKept.heap_set hb).1, hse, ?_, fun y hy => h4 y (hsub y hy), fun k' v' => ?_⟩
    · have : (es.eraseIdxIfInBounds j).toList.length ≤ es.toList.length := by rw [ee]; exact List.length_eraseIdx_le _ _
      rw [Array.length_toList, Array.length_toList] at this; omega
    · have hgone : ∀ y ∈ (es.eraseIdxIfInBounds j).toList, y.key ≠ hK k := by
        intro y hy e1
        rw [ee, List.mem_eraseIdx_iff_getElem?] at hy
        obtain ⟨i, hne, hi⟩ := hy
        have hi' : es[i]? = some y := by simpa using hi
        have hx := entry_one h2 (Array.mem_toList_iff.2 (Array.mem_of_getElem? hi')) (Array.mem_toList_iff.2 (Array.mem_of_getElem? d)) (e1.trans f.symm)
        subst hx
        refine hne ((List.getElem?_inj (l := es.toList.map (·.key)) ?_ h2.2.2).1 ?_)
        · simpa using (Array.getElem?_eq_some_iff.1 hi').1
        · simp [hi', d]
      by_cases e : k' = k
      · subst e
        rw [updH_self]
        constructor
        · intro e; cases e
        · rintro ⟨y, hy, e1, e2⟩; exact absurd e1 (hgone y hy)
      · rw [updH_ne _ _ e, h5]
        constructor
        · rintro ⟨y, hy, e1, e2⟩
          refine ⟨y, ?_, e1, e2⟩
          obtain ⟨i, hi⟩ := List.mem_iff_getElem?.1 hy
          rw [ee, List.mem_eraseIdx_iff_getElem?]
          refine ⟨i, ?_, hi⟩
          rintro rfl
          have hi' : es[i]? = some y := by simpa using hi
          rw [hi'] at d; cases d
          rw [f] at e1; have e1' := hK_inj e1; exact e e1'.symm
        · rintro ⟨y, hy, e1, e2⟩; exact ⟨y, hsub y hy, e1, e2⟩
end

theorem row_kept {w w' : World} {B t sz n : Nat} {v : Value} {xs : List Value} (h : w.ownsRow B t sz v n xs) (hk : ∀ g, v.ownBlock = some g → w'.heap[g]? = w.heap[g]?) : w'.ownsRow B t sz v n xs := by
  refine ⟨h.1, ?_⟩
  rcases h.2 with e | ⟨g, cap, cur, e, h1, h2, h3⟩
  · exact .inl e
  · exact .inr ⟨g, cap, cur, e, h1, (hk g (by rw [e]; rfl)).trans h2, h3⟩
theorem row_cells {w : World} {B t sz n : Nat} {v : Value} {xs : List Value} (h : w.ownsRow B t sz v n xs) {g : Nat} (hg : v.ownBlock = some g) : ∃ cur, w.heap[g]? = some (.cells cur t (0, 0)) := by
  rcases h.2 with ⟨e, _⟩ | ⟨g', cap, cur, e, h1, h2, h3⟩
  · subst e; cases hg
  · subst e
    simp only [Value.ownBlock, Option.some.injEq] at hg
    subst hg
    exact ⟨cur, h2⟩
theorem HM.notcells {w : World} {m n : Nat} {F : HKey → Option Value} (h : HM w m n F) {cs : Array Value} {t : TypeId} {z : Nat × Nat} (e : w.heap[m]? = some (.cells cs t z)) : False := by
  obtain ⟨es, c, h1, _⟩ := h
  rw [h1] at e
  cases e
theorem IM.notcells {w : World} {m n : Nat} {F : Int → Option Value} (h : IM w m n F) {cs : Array Value} {t : TypeId} {z : Nat × Nat} (e : w.heap[m]? = some (.cells cs t z)) : False := by
  obtain ⟨es, c, h1, _⟩ := h
  rw [h1] at e
  cases e
theorem zero3 (w : World) : (zeroValue 3).run Try.prog w = .ok (.int .i64 0) w := by kernel_rfl
/-- A handle of a row. -/
theorem idx34 {w : World} {B : Nat} {p : Option Addr} {A : List HKey} {c : Nat} (h : w.ownsRow B 31 2 (.slice p A.length c) A.length (hCells A)) {j : Nat} (hj : j < A.length) (hl : A.length ≤ 100000) :
    ∃ g x, A[j]? = some x ∧ g < w.heap.size ∧ (Value.slice p A.length c).ownBlock = some g ∧ w.cell? ⟨g, j * 2, none⟩ = some (.int .i64 x.1) ∧ w.cell? ⟨g, j * 2 + 1, none⟩ = some (.int .u64 x.2) ∧ ∀ W, (Instr.indexAt 40 (.slice p A.length c) (.int .i64 j)).run Try.prog W = .ok (.pointer (some ⟨g, j * 2, none⟩)) W := by
  rcases h.2 with ⟨e, e2⟩ | ⟨g, cap, cur, e, h1, h2, h3⟩
  · omega
  · cases e
    have hx := List.getElem?_eq_getElem hj
    have hc := hCells_at A j _ hx
    refine ⟨g, A[j], hx, heap_lt h2, rfl, ?_, ?_, fun W => ?_⟩
    · rw [h.cellAt _ (by omega)]; exact hc.1
    · rw [h.cellAt _ (by omega)]; exact hc.2
    · have hi2 : (j : Int) < A.length := by omega
      simp [go_sem, hj]
theorem HM.drewN {w : World} {m n : Nat} {F : HKey → Option Value} (h : HM w m n F) (k : Nat) : HM (w.drewN k) m n F := h
theorem Below.drewN {B : Nat} {a w : World} (h : Below B a w) (k : Nat) : Below B a (w.drewN k) := ⟨h.os, h.tape, h.output, h.size, h.block⟩
theorem hCells_drop : ∀ (l : List HKey) (a : Nat), hCells (l.drop a) = (hCells l).drop (a * 2)
  | [], a => by simp [hCells]
  | x :: l, 0 => by simp
  | (s, g) :: l, a + 1 => by
    rw [List.drop_succ_cons, hCells_drop l a, show (a + 1) * 2 = a * 2 + 1 + 1 by omega]
    simp [hCells]
theorem hCells_take : ∀ (l : List HKey) (a : Nat), hCells (l.take a) = (hCells l).take (a * 2)
  | [], a => by simp [hCells]
  | x :: l, 0 => by simp [hCells]
  | (s, g) :: l, a + 1 => by
    rw [List.take_succ_cons, show (a + 1) * 2 = a * 2 + 1 + 1 by omega]
    simp [hCells, hCells_take l a]
theorem news_row {w : World} {B g cap : Nat} {X : List HKey} (h : w.ownsRow B 31 2 (.slice (some ⟨g, 0, none⟩) X.length cap) X.length (hCells X)) (a m : Nat) (ha : a + m ≤ X.length) :
    ∀ (j : Nat) (u : Value), (hCells ((X.drop a).take m))[j]? = some u → w.cell? ((⟨g, a * 2, none⟩ : Addr).add j) = some u := by
  intro j u hu
  have hj : j < m * 2 := by
    have := (List.getElem?_eq_some_iff.1 hu).1
    rw [hCells_len] at this
    simp at this
    omega
  rw [hCells_take, List.getElem?_take, if_pos hj, hCells_drop, List.getElem?_drop] at hu
  rw [show (⟨g, a * 2, none⟩ : Addr).add j = ⟨g, a * 2 + j, none⟩ by unfold Addr.add; split <;> simp_all]
  rw [h.cellAt _ (by omega)]
  exact hu
theorem cutH (g n c k : Nat) (hk : k ≤ c) (W : World) : (Instr.slice 40 (.slice (some ⟨g, 0, none⟩) n c) none (some (.int .i64 k)) none).run Try.prog W = .ok (.slice (some ⟨g, 0, none⟩) k c) W := by
  have h5 : (sizeOf (Try.prog.elem 40)).run Try.prog W = .ok 2 W := by kernel_rfl
  rw [run_slice_h W 40 (some ⟨g, 0, none⟩) n c (by kernel_rfl) .i64 k (by omega) (by omega), h5]
  simp only [Result.andThen_ok, sliced, Int.toNat_natCast, Nat.sub_zero, Nat.zero_mul]
  congr 2
  split
  · rfl
  · simp [Addr.add]
theorem cutL (g n c k : Nat) (hk : k ≤ n) (hn : n ≤ c) : ∃ ad : Addr, (k < n → ad = ⟨g, k * 2, none⟩) ∧ ∀ W, (Instr.slice 40 (.slice (some ⟨g, 0, none⟩) n c) (some (.int .i64 k)) none none).run Try.prog W = .ok (.slice (some ad) (n - k) (c - k)) W := by
  have h5 : ∀ W, (sizeOf (Try.prog.elem 40)).run Try.prog W = .ok 2 W := fun W => by kernel_rfl
  by_cases e : c = k
  · refine ⟨⟨g, 0, none⟩, by omega, fun W => ?_⟩
    rw [run_slice_l W 40 (some ⟨g, 0, none⟩) n c (by kernel_rfl) .i64 k (by omega) (by omega), h5]
    simp [sliced, Result.andThen, e]
  · refine ⟨(⟨g, 0, none⟩ : Addr).add (k * 2), fun _ => by unfold Addr.add; split <;> simp_all, fun W => ?_⟩
    rw [run_slice_l W 40 (some ⟨g, 0, none⟩) n c (by kernel_rfl) .i64 k (by omega) (by omega), h5]
    simp [sliced, Result.andThen, e]
theorem some_shape {w : World} {B : Nat} {v : Value} {X : List HKey} (h : w.ownsRow B 31 2 v X.length (hCells X)) (hX : 0 < X.length) : ∃ g cap, v = .slice (some ⟨g, 0, none⟩) X.length cap ∧ X.length ≤ cap := by
  rcases h.2 with ⟨e, h⟩ | ⟨g, cap, cur, e, _, _, h3, _⟩
  · omega
  · exact ⟨g, cap, e, h3⟩
theorem HM.count {w : World} {m n : Nat} {F : HKey → Option Value} (h : HM w m n F) {K : List HKey} (hn : K.Nodup) (hm : ∀ k, k ∈ K ↔ (F k).isSome = true) : ∃ es c, w.heap[m]? = some (.map es c) ∧ es.size = K.length := by
  obtain ⟨es, c, h1, h2, h3, h4, h5⟩ := h
  refine ⟨es, c, h1, ?_⟩
  have a : (es.toList.map (·.key)).Nodup := h2.2.2
  have b : (K.map (fun k => hK k)).Nodup := by
    rw [List.Nodup, List.pairwise_map]
    exact hn.imp fun {x y} hxy e => hxy (hK_inj e)
  have p : (es.toList.map (·.key)).Perm (K.map (fun k => hK k)) := by
    refine (List.perm_ext_iff_of_nodup a b).2 fun v => ?_
    rw [List.mem_map, List.mem_map]
    constructor
    · rintro ⟨x, hx, rfl⟩
      obtain ⟨k, hk, _⟩ := h4 x hx
      refine ⟨k, (hm k).2 ?_, hk.symm⟩
      rw [(h5 k x.val).2 ⟨x, hx, hk, rfl⟩]
      rfl
    · rintro ⟨k, hk, rfl⟩
      obtain ⟨v, hv⟩ := Option.isSome_iff_exists.1 ((hm k).1 hk)
      obtain ⟨x, hx, e, _⟩ := (h5 k v).1 hv
      exact ⟨x, hx, e⟩
  have := p.length_eq
  simpa using this
end Go.Proofs.Ythgpbbpmfpfjnaa
