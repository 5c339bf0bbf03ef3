/- Towards the statements of package lock (layer 18): a map from steps (of a map and a slot), its entries, a range over it. -/
import Derived.Test.YtboahmoplgkmnaaKB
import Derived.Maps.RangeWalk
import Derived.WideKeyEntry
namespace Go.Proofs.Ytboahmoplgkmnaa.K
open Go.ChangeShapes Go.WideShapes Go.ChangeAt Go.RowKit Go.ChangeMaps Go.MapKept
set_option linter.unusedVariables false
set_option linter.unusedSimpArgs false
set_option maxRecDepth 20000
theorem fields27 : ∃ f0 f1 f2, (Try.prog.fieldsOf 27).toList = [f0, f1, f2] ∧ (f0.name ≠ "_" ∧ f0.type = 4 ∧ f0.offset = 0) ∧ (f1.name ≠ "_" ∧ f1.type = 3 ∧ f1.offset = 1) ∧ (f2.name ≠ "_" ∧ f2.type = 3 ∧ f2.offset = 2) := by
  have e : ((Try.prog.fieldsOf 27).toList.map fun f => (f.name == "_", f.type, f.offset)) = [(false, 4, 0), (false, 3, 1), (false, 3, 2)] := by kernel_rfl
  generalize (Try.prog.fieldsOf 27).toList = l at e ⊢
  rcases l with _ | ⟨f0, _ | ⟨f1, _ | ⟨f2, _ | ⟨f3, l⟩⟩⟩⟩
  · simp at e
  · simp at e
  · simp at e
  · simp at e
    exact ⟨f0, f1, f2, rfl, e.1, e.2.1, e.2.2⟩
  · simp at e
theorem pt0 (a b c : Value) (W : World) : (part 4 #[a, b, c] 0).run Try.prog W = .ok a W := by kernel_rfl
theorem pt1 (a b c : Value) (W : World) : (part 3 #[a, b, c] 1).run Try.prog W = .ok b W := by kernel_rfl
theorem pt2 (a b c : Value) (W : World) : (part 3 #[a, b, c] 2).run Try.prog W = .ok c W := by kernel_rfl
theorem equalH (d : Nat) (p q : Bool) (b c g n : Int) (W : World) : (Op.equalIn (d + 3) 27 (.agg #[.bool p, .int .i64 b, .int .i64 c]) (.agg #[.bool q, .int .i64 g, .int .i64 n])).run Try.prog W = .ok (decide (p = q ∧ b = g ∧ c = n)) W := by
  have h1 : Try.prog.underlying 27 = some (.struct (Try.prog.fieldsOf 27)) := by kernel_rfl
  have h2 : Try.prog.stoodInHeld 27 = false := by kernel_rfl
  rw [run_equalIn_agg W (d + 2) 27 _ _ h1 h2]
  obtain ⟨f0, f1, f2, e, ⟨a1, a2, a3⟩, ⟨b1, b2, b3⟩, ⟨c1, c2, c3⟩⟩ := fields27
  rw [e]
  simp only [Op.eqFields, a2, a3, b2, b3, c2, c3, Sem.run_bind, pt0, pt1, pt2, Result.andThen_ok, run_equalIn_bool, if_pos a1, if_pos b1, if_pos c1, Sem.run_pure]
  by_cases e1 : p = q
  · subst e1
    simp only [beq_self_eq_true, Bool.not_true, Bool.false_eq_true, if_false]
    simp only [Sem.run_bind, pt1, Result.andThen_ok, run_equalIn_int W (d + 1) 3 .i64 .i64 _ _ Try.underlying3, Sem.run_ite, Sem.run_pure]
    by_cases e2 : b = g
    · subst e2
      simp only [beq_self_eq_true, Bool.not_true, Bool.false_eq_true, if_false]
      simp only [Sem.run_bind, pt2, Result.andThen_ok, run_equalIn_int W (d + 1) 3 .i64 .i64 _ _ Try.underlying3, Sem.run_ite, Sem.run_pure]
      by_cases e3 : c = n
      · subst e3; simp
      · simp [e3]
    · simp [e2]
  · simp [e1]
abbrev HKey := Int × Int
def hK (k : HKey) : Value := .agg #[.bool false, .int .i64 k.1, .int .i64 k.2]
theorem hK_inj {a b : HKey} (h : hK a = hK b) : a = b := by
  simp [hK] at h
  exact Prod.ext h.1 h.2
theorem equalK (a b : HKey) (W : World) : (Op.equal 27 (hK a) (hK b)).run Try.prog W = .ok (decide (a = b)) W := by
  show (Op.equalIn 10000 27 _ _).run Try.prog W = _
  unfold hK
  rw [equalH 9997]
  congr 1
  exact decide_eq_decide.2 ⟨fun h => Prod.ext h.2.1 h.2.2, fun h => by subst h; exact ⟨rfl, rfl, rfl⟩⟩
theorem entry_one {es : Array MapEntry} {c : Nat} (hs : MapKept.Stamped es c) {x y : MapEntry} (hx : x ∈ es.toList) (hy : y ∈ es.toList) (e : x.key = y.key) : x = y := by
  obtain ⟨i, hi⟩ := List.mem_iff_getElem?.1 hx
  obtain ⟨j, hj⟩ := List.mem_iff_getElem?.1 hy
  have hlt := (List.getElem?_eq_some_iff.1 hi).1
  have : i = j := (List.getElem?_inj (l := es.toList.map (·.key)) (by simpa using hlt) hs.2.2).1 (by rw [List.getElem?_map, List.getElem?_map, hi, hj]; simp [e])
  subst this
  rw [hi] at hj
  exact Option.some.inj hj
theorem askH (k : HKey) : ∀ (l : List MapEntry) (i : Nat), (∀ x ∈ l, ∃ k', x.key = hK k') →
    ((∀ W, (Instr.findAsking 27 (hK k) l i).run Try.prog W = .ok none W) ∧ ∀ x ∈ l, x.key ≠ hK k) ∨ ∃ j e, (∀ W, (Instr.findAsking 27 (hK k) l i).run Try.prog W = .ok (some (i + j, e.val)) W) ∧ l[j]? = some e ∧ e.key = hK k
  | [], i, _ => .inl ⟨fun W => rfl, by simp⟩
  | e :: l, i, h => by
    obtain ⟨k', hk'⟩ := h e (.head _)
    by_cases he : k = k'
    · subst he
      refine .inr ⟨0, e, fun W => ?_, rfl, hk'⟩
      simp [Instr.findAsking, hk', equalK, Result.andThen]
    · have hne : e.key ≠ hK k := fun q => he (hK_inj (q.symm.trans hk'))
      rcases askH k l (i + 1) (fun x hx => h x (.tail _ hx)) with ⟨h1, h2⟩ | ⟨j, e', h1, h2, h3⟩
      · exact .inl ⟨fun W => by simp [Instr.findAsking, hk', equalK, he, h1, Result.andThen], fun x hx => by
          cases hx with
          | head => exact hne
          | tail _ hx => exact h2 x hx⟩
      · exact .inr ⟨j + 1, e', fun W => by simp [Instr.findAsking, hk', equalK, he, h1, Result.andThen]; omega, by simpa using h2, h3⟩
theorem findH (k : HKey) (l : List MapEntry) (h : ∀ x ∈ l, ∃ k', x.key = hK k') :
    ((∀ W, (Instr.findKey 27 (hK k) l).run Try.prog W = .ok none W) ∧ ∀ x ∈ l, x.key ≠ hK k) ∨ ∃ j e, (∀ W, (Instr.findKey 27 (hK k) l).run Try.prog W = .ok (some (j, e.val)) W) ∧ l[j]? = some e ∧ e.key = hK k := by
  cases l with
  | nil => exact .inl ⟨fun W => by simp [Instr.findKey, run_underlying Try.underlying27, Result.andThen, Instr.findNow], by simp⟩
  | cons e l =>
    have h0 : ∀ d, d = Try.prog.fieldsOf 27 → Instr.findNow (.struct d) (hK k) (e :: l) 0 = none := by
      intro d _
      simp [Instr.findNow, Instr.sameNow]
    have hrun : ∀ W, (Instr.findKey 27 (hK k) (e :: l)).run Try.prog W = (Instr.findAsking 27 (hK k) (e :: l) 0).run Try.prog W := fun W => by
      have h1 : Try.prog.underlying 27 = some (.struct (Try.prog.fieldsOf 27)) := by kernel_rfl
      simp [Instr.findKey, run_underlying h1, Result.andThen, h0]
    rcases askH k (e :: l) 0 h with ⟨h1, h2⟩ | ⟨j, e', h1, h2, h3⟩
    · exact .inl ⟨fun W => (hrun W).trans (h1 W), h2⟩
    · exact .inr ⟨j, e', fun W => (hrun W).trans (by rw [h1 W]; simp), h2, h3⟩
theorem checkH (q : Bool) (k : HKey) (W : World) : (Instr.checkKey q 10000 27 (hK k)).run Try.prog W = .ok () W := by
  unfold hK
  kernel_rfl
theorem staysH (k : HKey) (W : World) : (Instr.keyThatStays (hK k) (hK k)).run Try.prog W = .ok (hK k) W := by
  have : Instr.sameBits 10000 (hK k) (hK k) = true := by simp [Instr.sameBits, hK]
  simp [Instr.keyThatStays, this]
/-- Block m is a map of at most n entries, from whole numbers, that has F. -/
def HM (w : World) (m n : Nat) (F : HKey → Option Value) : Prop :=
  ∃ es clock, w.heap[m]? = some (.map es clock) ∧ MapKept.Stamped es clock ∧ es.size ≤ n ∧ (∀ x ∈ es.toList, ∃ k, x.key = hK k ∧ True) ∧ ∀ k v, F k = some v ↔ ∃ x ∈ es.toList, x.key = hK k ∧ x.val = v
def updH (F : HKey → Option Value) (k : HKey) (x : Option Value) : HKey → Option Value := fun s => if s = k then x else F s
theorem updH_self (F : HKey → Option Value) (k : HKey) (x : Option Value) : updH F k x k = x := by simp [updH]
theorem updH_ne (F : HKey → Option Value) {k s : HKey} (x : Option Value) (h : s ≠ k) : updH F k x s = F s := by simp [updH, h]
theorem HM.new (w : World) : HM (w.alloc (.map #[] 0)) w.heap.size 0 (fun _ => none) :=
  ⟨#[], 0, (MapKept.heap_alloc w _).1, MapKept.stamped_empty 0, Nat.le_refl _, by simp, by simp⟩
theorem HM.keep {w w' : World} {m n : Nat} {F : HKey → Option Value} (h : HM w m n F) (e : w'.heap[m]? = w.heap[m]?) : HM w' m n F := by
  obtain ⟨es, c, h1, h2⟩ := h
  exact ⟨es, c, e.trans h1, h2⟩
theorem HM.lt {w : World} {m n : Nat} {F : HKey → Option Value} (h : HM w m n F) : m < w.heap.size := by
  obtain ⟨es, c, h1, h2⟩ := h
  exact (Array.getElem?_eq_some_iff.1 h1).1
theorem HM.mono {w : World} {m n n' : Nat} {F : HKey → Option Value} (h : HM w m n F) (e : n ≤ n') : HM w m n' F := by
  obtain ⟨es, c, h1, h2, h3, h4⟩ := h
  exact ⟨es, c, h1, h2, by omega, h4⟩
theorem HM.alloc {w : World} {m n : Nat} {F : HKey → Option Value} (h : HM w m n F) (o : Obj) : HM (w.alloc o) m n F := h.keep ((MapKept.heap_alloc w o).2 _ h.lt)
theorem HM.find {w : World} {m n : Nat} {F : HKey → Option Value} (h : HM w m n F) (k : HKey) : ∃ es c, w.heap[m]? = some (.map es c) ∧
    ((F k = none ∧ (∀ W, (Instr.findKey 27 (hK k) es.toList).run Try.prog W = .ok none W) ∧ ∀ x ∈ es.toList, x.key ≠ hK k) ∨ ∃ j e, F k = some e.val ∧ (∀ W, (Instr.findKey 27 (hK k) es.toList).run Try.prog W = .ok (some (j, e.val)) W) ∧ es[j]? = some e ∧ e.key = hK k) ∧
    MapKept.Stamped es c ∧ es.size ≤ n ∧ (∀ x ∈ es.toList, ∃ k, x.key = hK k ∧ True) ∧ ∀ k v, F k = some v ↔ ∃ x ∈ es.toList, x.key = hK k ∧ x.val = v := by
  obtain ⟨es, c, h1, h2, h3, h4, h5⟩ := h
  refine ⟨es, c, h1, ?_, h2, h3, h4, h5⟩
  rcases findH k es.toList (fun x hx => by obtain ⟨k', e, _⟩ := h4 x hx; exact ⟨k', e⟩) with ⟨a, b⟩ | ⟨j, e, a, b, d⟩
  · refine .inl ⟨?_, a, b⟩
    cases hF : F k with
    | none => rfl
    | some v =>
      obtain ⟨x, hx, hk, _⟩ := (h5 k v).1 hF
      exact absurd hk (b x hx)
  · have hj : es[j]? = some e := by simpa using b
    exact .inr ⟨j, e, (h5 k _).2 ⟨e, Array.mem_toList_iff.2 (Array.mem_of_getElem? hj), d, rfl⟩, a, hj, d⟩
section
variable {t et : TypeId} (ht : Try.prog.underlying t = some (.map 27 et)) {w : World} {m n : Nat} {F : HKey → Option Value}
include ht
theorem HM.look_yes (h : HM w m n F) {k : HKey} {v : Value} (e : F k = some v) : (Instr.lookup t (.map (some m)) (hK k) true).run Try.prog w = .ok (.tuple #[v, .bool true]) w := by
  obtain ⟨es, c, hb, hf, _⟩ := h.find k
  rcases hf with ⟨a, _⟩ | ⟨j, x, a, b, _⟩
  · rw [a] at e; cases e
  rw [a] at e
  cases e
  have hc : ∀ q, (Instr.checkKey q 10000 27 (hK k)).run Try.prog w = .ok () w := fun q => checkH q k w
  have hf := b w
  simp [Instr.lookup, run_underlying ht, MapKept.run_getObj_map hb, hc, hf, Result.andThen]
theorem HM.look_no (h : HM w m n F) {k : HKey} (e : F k = none) {z : Value} (hz : (zeroValue et).run Try.prog w = .ok z w) : (Instr.lookup t (.map (some m)) (hK k) true).run Try.prog w = .ok (.tuple #[z, .bool false]) w := by
  obtain ⟨es, c, hb, hf, _⟩ := h.find k
  rcases hf with ⟨a, b, _⟩ | ⟨j, x, a, b, _⟩
  · have hc : ∀ q, (Instr.checkKey q 10000 27 (hK k)).run Try.prog w = .ok () w := fun q => checkH q k w
    have hf := b w
    simp [Instr.lookup, run_underlying ht, MapKept.run_getObj_map hb, hc, hf, hz, Result.andThen]
  · rw [a] at e; cases e
theorem HM.look1 (h : HM w m n F) (k : HKey) {z : Value} (hz : (zeroValue et).run Try.prog w = .ok z w) : (Instr.lookup t (.map (some m)) (hK k) false).run Try.prog w = .ok ((F k).getD z) w := by
  obtain ⟨es, c, hb, hf, _⟩ := h.find k
  have hc : ∀ q, (Instr.checkKey q 10000 27 (hK k)).run Try.prog w = .ok () w := fun q => checkH q k w
  rcases hf with ⟨a, b, _⟩ | ⟨j, x, a, b, _⟩
  · have hf := b w
    simp [Instr.lookup, run_underlying ht, MapKept.run_getObj_map hb, hc, hf, hz, a, Result.andThen]
  · have hf := b w
    simp [Instr.lookup, run_underlying ht, MapKept.run_getObj_map hb, hc, hf, a, Result.andThen]
theorem HM.put (h : HM w m n F) {k : HKey} (hi : True) (v : Value) : ∃ w', (Instr.mapUpdate t (.map (some m)) (hK k) v).run Try.prog w = .ok () w' ∧ HM w' m (n + 1) (updH F k (some v)) ∧ w.mapTurned w' m := by
  obtain ⟨es, c, hb, hf, h2, h3, h4, h5⟩ := h.find k
  have hc : ∀ q, (Instr.checkKey q 10000 27 (hK k)).run Try.prog w = .ok () w := fun q => checkH q k w
  rcases hf with ⟨a, b, d⟩ | ⟨j, x, a, b, d, f⟩
  · have hf := b w
    refine ⟨_, by simp [Instr.mapUpdate, run_underlying ht, MapKept.run_getObj_map hb, hc, hf, MapKept.run_setObj_map _ hb, Result.andThen]; rfl, ?_, es, c, _, _, hb, rfl⟩
    refine ⟨_, _, (MapKept.heap_set hb).1, MapKept.stamped_push h2 d, by simp; omega, ?_, fun k' v' => ?_⟩
    · intro x hx
      simp only [Array.toList_push, List.mem_append, List.mem_singleton] at hx
      rcases hx with hx | rfl
      · exact h4 x hx
      · exact ⟨k, rfl, trivial⟩
    · by_cases e : k' = k
      · subst e
        rw [updH_self]
        constructor
        · intro e; cases e; exact ⟨⟨hK k', v, c⟩, by simp, rfl, rfl⟩
        · rintro ⟨x, hx, e1, e2⟩
          simp only [Array.toList_push, List.mem_append, List.mem_singleton] at hx
          rcases hx with hx | rfl
          · exact absurd e1 (d x hx)
          · rw [← e2]
      · rw [updH_ne _ _ e, h5]
        constructor
        · rintro ⟨x, hx, e1, e2⟩; exact ⟨x, by simp; left; simpa using hx, e1, e2⟩
        · rintro ⟨x, hx, e1, e2⟩
          simp only [Array.toList_push, List.mem_append, List.mem_singleton] at hx
          rcases hx with hx | rfl
          · exact ⟨x, hx, e1, e2⟩
          · have e1' := hK_inj e1; exact absurd e1'.symm e
  · have hf := b w
    have hks : (Instr.keyThatStays (hK k) (hK k)).run Try.prog w = .ok (hK k) w := staysH k w
    refine ⟨_, by simp [Instr.mapUpdate, run_underlying ht, MapKept.run_getObj_map hb, hc, hf, d, f, hks, MapKept.run_setObj_map _ hb, Result.andThen]; rfl, ?_, es, c, _, _, hb, rfl⟩
    have hkey : ∀ e', es[j]? = some e' → ({ e' with key := hK k, val := v } : MapEntry).key = e'.key := fun e' he' => by rw [d] at he'; cases he'; exact f.symm
    have hmem : ∀ y, y ∈ (es.modify j fun e => { e with key := hK k, val := v }).toList ↔ ∃ i e, es[i]? = some e ∧ y = if i = j then { e with key := hK k, val := v } else e := by
      intro y
      rw [List.mem_iff_getElem?]
      constructor
      · rintro ⟨i, hi⟩
        rw [Array.getElem?_toList, Array.getElem?_modify] at hi
        split at hi
        · rename_i e
          obtain ⟨e0, h0, h1⟩ := Option.map_eq_some_iff.1 hi
          exact ⟨i, e0, h0, by rw [if_pos e.symm]; exact h1.symm⟩
        · rename_i e
          exact ⟨i, y, hi, by rw [if_neg (Ne.symm e)]⟩
      · rintro ⟨i, e, h0, h1⟩
        refine ⟨i, ?_⟩
        rw [Array.getElem?_toList, Array.getElem?_modify, h0]
        by_cases e2 : i = j
        · rw [if_pos e2.symm]; rw [if_pos e2] at h1; rw [h1]; rfl
        · rw [if_neg (Ne.symm e2)]; rw [if_neg e2] at h1; rw [h1]
    refine ⟨_, _, (MapKept.heap_set hb).1, MapKept.stamped_modify h2 _ _ (fun _ _ => rfl) (fun e' _ he' => hkey e' he'), by simp; omega, ?_, fun k' v' => ?_⟩
    · intro y hy
      obtain ⟨i, e, h0, h1⟩ := (hmem y).1 hy
      split at h1
      · subst h1; exact ⟨k, rfl, trivial⟩
      · subst h1; exact h4 _ (Array.mem_toList_iff.2 (Array.mem_of_getElem? h0))
    · by_cases e : k' = k
      · subst e
        rw [updH_self]
        constructor
        · intro e; cases e; exact ⟨_, (hmem _).2 ⟨j, x, d, by rw [if_pos rfl]⟩, rfl, rfl⟩
        · rintro ⟨y, hy, e1, e2⟩
          obtain ⟨i, e, h0, h1⟩ := (hmem y).1 hy
          split at h1
          · subst h1; rw [← e2]
          · rename_i hne
            subst h1
            refine absurd ?_ hne
            have hx := entry_one h2 (Array.mem_toList_iff.2 (Array.mem_of_getElem? h0)) (Array.mem_toList_iff.2 (Array.mem_of_getElem? d)) (e1.trans f.symm)
            subst hx
            have hnd := h2.2.2
            have hlt := (Array.getElem?_eq_some_iff.1 h0).1
            refine (List.getElem?_inj (l := es.toList.map (·.key)) (by simpa using hlt) hnd).1 ?_
            simp [h0, d]
      · rw [updH_ne _ _ e, h5]
        constructor
        · rintro ⟨y, hy, e1, e2⟩
          obtain ⟨i, hi⟩ := List.mem_iff_getElem?.1 hy
          have hi' : es[i]? = some y := by simpa using hi
          have hne : i ≠ j := by
            rintro rfl
            rw [hi'] at d; cases d
            rw [f] at e1; have e1' := hK_inj e1; exact e e1'.symm
          exact ⟨y, (hmem y).2 ⟨i, y, hi', by rw [if_neg hne]⟩, e1, e2⟩
        · rintro ⟨y, hy, e1, e2⟩
          obtain ⟨i, e0, h0, h1⟩ := (hmem y).1 hy
          split at h1
          · subst h1; have e1' := hK_inj e1; exact absurd e1'.symm e
          · subst h1; exact ⟨_, Array.mem_toList_iff.2 (Array.mem_of_getElem? h0), e1, e2⟩
end

theorem HM.notcells {w : World} {m n : Nat} {F : HKey → Option Value} (h : HM w m n F) {cs : Array Value} {t : TypeId} {z : Nat × Nat} (e : w.heap[m]? = some (.cells cs t z)) : False := by
  obtain ⟨es, c, h1, _⟩ := h
  rw [h1] at e
  cases e
theorem HM.drewN {w : World} {m n : Nat} {F : HKey → Option Value} (h : HM w m n F) (k : Nat) : HM (w.drewN k) m n F := h
theorem HM.count {w : World} {m n : Nat} {F : HKey → Option Value} (h : HM w m n F) {K : List HKey} (hn : K.Nodup) (hm : ∀ k, k ∈ K ↔ (F k).isSome = true) : ∃ es c, w.heap[m]? = some (.map es c) ∧ es.size = K.length := by
  obtain ⟨es, c, h1, h2, h3, h4, h5⟩ := h
  refine ⟨es, c, h1, ?_⟩
  have a : (es.toList.map (·.key)).Nodup := h2.2.2
  have b : (K.map (fun k => hK k)).Nodup := by
    rw [List.Nodup, List.pairwise_map]
    exact hn.imp fun {x y} hxy e => hxy (hK_inj e)
  have p : (es.toList.map (·.key)).Perm (K.map (fun k => hK k)) := by
    refine (List.perm_ext_iff_of_nodup a b).2 fun v => ?_
    rw [List.mem_map, List.mem_map]
    constructor
    · rintro ⟨x, hx, rfl⟩
      obtain ⟨k, hk, _⟩ := h4 x hx
      refine ⟨k, (hm k).2 ?_, hk.symm⟩
      rw [(h5 k x.val).2 ⟨x, hx, hk, rfl⟩]
      rfl
    · rintro ⟨k, hk, rfl⟩
      obtain ⟨v, hv⟩ := Option.isSome_iff_exists.1 ((hm k).1 hk)
      obtain ⟨x, hx, e, _⟩ := (h5 k v).1 hv
      exact ⟨x, hx, e⟩
  have := p.length_eq
  simpa using this
/-- A range over map m goes on at block r: what of F has come is ss; cnt are left. -/
def HRg (w : World) (m r n : Nat) (F : HKey → Option Value) (ss : List HKey) (cnt : Nat) : Prop :=
  ∃ es clock since seen c0, w.heap[m]? = some (.map es clock) ∧ w.heap[r]? = some (.mapIter (some m) since seen c0) ∧ MapKept.Stamped es clock ∧ es.size ≤ n ∧ (∀ x ∈ es.toList, ∃ k, x.key = hK k ∧ True) ∧ (∀ k v, F k = some v ↔ ∃ x ∈ es.toList, x.key = hK k ∧ x.val = v) ∧
    (∀ x ∈ es.toList, x.born < since) ∧ (leftOf es seen).size = cnt ∧ since ≤ c0 ∧ since ≤ clock ∧ ss.Nodup ∧ (∀ k ∈ ss, (F k).isSome = true) ∧ ∀ x ∈ es.toList, ∀ k, x.key = hK k → (seen.contains x.born = true ↔ k ∈ ss)
variable {w : World} {m r n : Nat} {F : HKey → Option Value} {ss : List HKey} {cnt : Nat}
theorem HRg.left_eq (h : HRg w m r n F ss cnt) : w.rangeLeft m r = cnt := by
  obtain ⟨es, clock, since, seen, c0, hb, hr, _, _, _, _, _, hc, _⟩ := h
  simp only [World.rangeLeft, hb, hr]
  exact hc
theorem HRg.nodup (h : HRg w m r n F ss cnt) : ss.Nodup := by
  obtain ⟨es, c, _, _, _, _, _, _, _, _, _, _, _, _, _, h, _⟩ := h
  exact h
theorem HRg.bel {w' : World} (h : HRg w m r n F ss cnt) (e1 : w'.heap[m]? = w.heap[m]?) (e2 : w'.heap[r]? = w.heap[r]?) : HRg w' m r n F ss cnt := by
  obtain ⟨es, clock, since, seen, c0, a, b, rest⟩ := h
  exact ⟨es, clock, since, seen, c0, e1.trans a, e2.trans b, rest⟩
theorem HM.range {t e : TypeId} (h : HM w m n F) (ht : Try.prog.underlying t = some (.map 27 e)) :
    ∃ w' c, (Instr.range t (.map (some m))).run Try.prog w = .ok (.pointer (some ⟨w.heap.size, 0, none⟩)) w' ∧ HRg w' m w.heap.size n F [] c ∧ c ≤ n ∧ w.grownBy w' none ∧ w'.heap.size = w.heap.size + 1 := by
  have hlt := h.lt
  obtain ⟨es, clock, hb, hst, hs, hk, hF⟩ := h
  refine ⟨_, es.size, run_range_map w t 27 e m es clock ht hb, ⟨es, clock, clock, #[], clock, ((MapKept.heap_alloc w _).2 m hlt).trans hb, (MapKept.heap_alloc w _).1, hst, hs, hk, hF, ((stamped_iff es clock).1 hst).1, ?_, Nat.le_refl _, Nat.le_refl _, List.nodup_nil, by simp, by simp⟩, hs, World.grownBy_alloc w _ none, by simp⟩
  simp [leftOf]
/-- One step of it. -/
theorem HRg.next (h : HRg w m r n F ss cnt) (ty : TypeId) :
    (cnt = 0 ∧ (∀ k, k ∈ ss ↔ (F k).isSome = true) ∧ (Instr.next (.pointer (some ⟨r, 0, none⟩)) false ty).run Try.prog w = .ok (.tuple #[.bool false]) w) ∨
    ∃ k v w' cnt', F k = some v ∧ k ∉ ss ∧ (Instr.next (.pointer (some ⟨r, 0, none⟩)) false ty).run Try.prog w = .ok (.tuple #[.bool true, hK k, v]) w' ∧
      HRg w' m r n F (ss ++ [k]) cnt' ∧ cnt' < cnt ∧ w.grownBy w' (some r) ∧ w'.heap.size = w.heap.size ∧ (Instr.entry (.pointer (some ⟨r, 0, none⟩))).run Try.prog w' = .ok (.tuple #[hK k, v]) w' := by
  obtain ⟨es, clock, since, seen, c0, hb, hr, hst, hs, hk, hF, hold, rfl, hsc, hsk, hnd, hin, hseen⟩ := h
  have hne : r ≠ m := fun e => by rw [e, hb] at hr; cases hr
  have hst' := (stamped_iff es clock).1 hst
  rcases run_next_at (P := Try.prog) w ty r m since c0 seen es clock hr hb hold hsc with ⟨h0, hrun⟩ | ⟨e, he, w1, hal, hrun⟩
  · refine .inl ⟨h0, fun k => ⟨hin k, fun q => ?_⟩, hrun⟩
    obtain ⟨v, hv⟩ := Option.isSome_iff_exists.1 q
    obtain ⟨x, hx, hxk, _⟩ := (hF k v).1 hv
    exact (hseen x hx k hxk).1 (all_seen es seen h0 x hx)
  · obtain ⟨hem, hes⟩ := mem_left he
    obtain ⟨k, hek, _⟩ := hk e hem
    have hFk : F k = some e.val := (hF k _).2 ⟨e, hem, hek, rfl⟩
    have hr1 : w1.heap[r]? = some (.mapIter (some m) since seen c0) := by rcases hal with rfl | rfl <;> exact hr
    have hb1 : w1.heap[m]? = some (.map es clock) := by rcases hal with rfl | rfl <;> exact hb
    have hset := heap_set (o' := .mapIter (some m) since (seen.push e.born) clock) hr1
    have hb' : (setBlock w1 r (.mapIter (some m) since (seen.push e.born) clock)).heap[m]? = some (.map es clock) := (hset.2 m (fun e1 => hne e1.symm)).trans hb1
    have hnk : k ∉ ss := fun q => by
      have := (hseen e hem k hek).2 q
      rw [hes] at this; cases this
    refine .inr ⟨k, e.val, _, _, hFk, hnk, by rw [← hek]; exact hrun,
      ⟨es, clock, since, seen.push e.born, clock, hb', hset.1, hst, hs, hk, hF, hold, rfl, hsk, hsk, ?_, ?_, fun x hx k' hxk => ?_⟩, left_shrinks es seen e he, ?_, ?_, by rw [← hek]; exact run_entry_at _ r m since seen es clock e hset.1 hb' hem hst'.2.1⟩
    · exact List.nodup_append.2 ⟨hnd, by simp, fun a ha b hb2 => by simp at hb2; subst hb2; exact fun q => hnk (q ▸ ha)⟩
    · intro k' q
      rcases List.mem_append.1 q with q | q
      · exact hin k' q
      · simp at q; subst q; rw [hFk]; rfl
    · rw [contains_push, Bool.or_eq_true, List.mem_append, hseen x hx k' hxk, List.mem_singleton]
      refine or_congr Iff.rfl ?_
      constructor
      · intro q
        have q' : x.born = e.born := by simpa using q
        obtain rfl := born_inj hst'.2.1 hx hem q'
        exact hK_inj (hxk.symm.trans hek)
      · rintro rfl
        have : x = e := entry_eq_of_key hst'.2.2 hx hem (hxk.trans hek.symm)
        subst this; simp
    · rcases hal with rfl | rfl <;> exact ⟨rfl, rfl, rfl, by simp [setBlock], fun i _ hi => hset.2 i (fun e1 => hi (by rw [e1]))⟩
    · rcases hal with rfl | rfl <;> simp [setBlock]
section
variable {a : Act} {o : Oper} {ops : Array Oper} {rest : List Oper} {Q : Exit → Act → World → Prop} (w)
theorem l_range (hg : o.guard = none) (mo : Operand) (t e : TypeId) (hop : o.op = Op.range t mo) (ht : Try.prog.underlying t = some (.map 27 e)) (hm : a.eval mo = .map (some m)) (h : HM w m n F)
    (hK : ∀ w' c, HRg w' m w.heap.size n F [] c → c ≤ n → w.grownBy w' none → w'.heap.size = w.heap.size + 1 → wpList Try.prog ops Q rest (a.put o.dst (.pointer (some ⟨w.heap.size, 0, none⟩))) w') :
    wpList Try.prog ops Q (o :: rest) a w := by
  refine wpList_plain hg fun K' hK' => ?_
  obtain ⟨w', c, hrun, r1, r0, r2, r3⟩ := h.range ht
  unfold Oper.wp
  simp [execOp, hop, hm, hrun, Result.andThen]
  exact hK' _ _ (hK w' c r1 r0 r2 r3)
theorem l_next (hg : o.guard = none) (it : Operand) (hop : o.op = Op.next it false) (hit : a.eval it = .pointer (some ⟨r, 0, none⟩)) (h : HRg w m r n F ss cnt)
    (hDone : cnt = 0 → (∀ k, k ∈ ss ↔ (F k).isSome = true) → wpList Try.prog ops Q rest (a.put o.dst (.tuple #[.bool false])) w)
    (hMore : ∀ k v w' cnt', F k = some v → k ∉ ss → HRg w' m r n F (ss ++ [k]) cnt' → cnt' < cnt → w.grownBy w' (some r) → w'.heap.size = w.heap.size → (Instr.entry (.pointer (some ⟨r, 0, none⟩))).run Try.prog w' = .ok (.tuple #[hK k, v]) w' → wpList Try.prog ops Q rest (a.put o.dst (.tuple #[.bool true, hK k, v])) w') :
    wpList Try.prog ops Q (o :: rest) a w := by
  refine wpList_plain hg fun K' hK' => ?_
  unfold Oper.wp
  rcases h.next o.type with ⟨h0, hl, hrun⟩ | ⟨k, v, w', cnt', h1, h2, hrun, h3, h4, h5, h6, h7⟩
  · simp [execOp, hop, hit, hrun, Result.andThen]
    exact hK' _ _ (hDone h0 hl)
  · simp [execOp, hop, hit, hrun, Result.andThen]
    exact hK' _ _ (hMore k v w' cnt' h1 h2 h3 h4 h5 h6 h7)
end
theorem updH_id (F : HKey → Option Value) (k : HKey) {x : Option Value} (h : F k = x) : updH F k x = F := by
  funext s
  unfold updH
  split
  · rename_i e; rw [e, h]
  · rfl
theorem heap_setBlock {w : World} {m : Nat} {o : Obj} (h : m < w.heap.size) (o' : Obj) : (setBlock w m o').heap[m]? = some o' := by
  simp [setBlock, h]
section
variable {t et : TypeId} (ht : Try.prog.underlying t = some (.map 27 et)) {w : World} {m n : Nat} {F : HKey → Option Value}
include ht
/-- m[k] op= v: the entry is laid, then written. -/
theorem HM.bump (h : HM w m n F) (k : HKey) {z : Value} (hz : ∀ W : World, (zeroValue et).run Try.prog W = .ok z W) :
    ∃ (st : Nat) (W1 : World), (Instr.mapEntry t (.map (some m)) (hK k)).run Try.prog w = .ok (.tuple #[(F k).getD z, goInt st]) W1 ∧ HM W1 m (n + 1) (updH F k (some ((F k).getD z))) ∧ w.mapTurned W1 m ∧
      ∀ (W : World) (v : Value), W.heap[m]? = W1.heap[m]? → ∃ W2, (Instr.entryStore t (.map (some m)) (goInt st) v).run Try.prog W = .ok () W2 ∧ HM W2 m (n + 1) (updH F k (some v)) ∧ W.mapTurned W2 m := by
  have hput := fun v => h.put ht (k := k) trivial v
  have hM := h
  obtain ⟨es, c, hb, hf, h2, h3, h4, h5⟩ := h.find k
  have hlt := h.lt
  have hc : ∀ q, (Instr.checkKey q 10000 27 (hK k)).run Try.prog w = .ok () w := fun q => checkH q k w
  have h2' := (stamped_iff es c).1 h2
  rcases hf with ⟨a, b, d⟩ | ⟨j, x, a, b, d, f⟩
  · have hf := b w
    have hu : ∀ v, (Instr.mapUpdate t (.map (some m)) (hK k) v).run Try.prog w = .ok () (setBlock w m (.map (es.push ⟨hK k, v, c⟩) (c + 1))) := fun v => by
      simp [Instr.mapUpdate, run_underlying ht, MapKept.run_getObj_map hb, hc, hf, MapKept.run_setObj_map _ hb, Result.andThen, setBlock]
    have hp : ∀ v, HM (setBlock w m (.map (es.push ⟨hK k, v, c⟩) (c + 1))) m (n + 1) (updH F k (some v)) := fun v => by
      obtain ⟨w', e1, e2, _⟩ := hput v
      rw [hu v] at e1
      cases e1
      exact e2
    have hz' := hz w
    refine ⟨c, setBlock w m (.map (es.push ⟨hK k, z, c⟩) (c + 1)), ?_, ?_, ⟨es, c, _, _, hb, rfl⟩, fun W v e => ?_⟩
    · rw [a]
      simp [Instr.mapEntry, run_underlying ht, MapKept.run_getObj_map hb, hc, hf, hz', MapKept.run_setObj_map _ hb, Result.andThen, setBlock]
    · rw [a]
      exact hp z
    · have hW : W.heap[m]? = some (.map (es.push ⟨hK k, z, c⟩) (c + 1)) := e.trans (by simp [setBlock, hlt])
      have hidx : (es.push ⟨hK k, z, c⟩).findIdx? (fun e => ((e.born : Nat) : Int) == ((c : Nat) : Int)) = some es.size := by
        rw [WideElems.findIdx_arr]
        refine WideElems.findIdx_born (l := (es.push ⟨hK k, z, c⟩).toList) (j := es.size) (e0 := ⟨hK k, z, c⟩) ?_ (by simp)
        simp only [Array.toList_push, List.map_append, List.map_cons, List.map_nil]
        refine List.nodup_append.2 ⟨h2'.2.1, by simp, fun a ha c hc e1 => ?_⟩
        simp only [List.mem_singleton] at hc
        obtain ⟨x, hx, rfl⟩ := List.mem_map.1 ha
        have := h2'.1 x hx
        omega
      have hmod : (es.push ⟨hK k, z, c⟩).modify es.size (fun e => { e with val := v }) = es.push ⟨hK k, v, c⟩ := by
        apply Array.ext'
        rw [Array.toList_modify, Array.toList_push, Array.toList_push, ← Array.length_toList, WideElems.modify_last]
      have hWlt : m < W.heap.size := (Array.getElem?_eq_some_iff.1 hW).1
      refine ⟨setBlock W m (.map (es.push ⟨hK k, v, c⟩) (c + 1)), ?_, (hp v).keep ?_, ⟨_, _, _, _, hW, rfl⟩⟩
      · simp [Instr.entryStore, MapKept.run_getObj_map hW, asInt, asIntOf, goInt, hidx, hmod, MapKept.run_setObj_map _ hW, Result.andThen, setBlock]
      · simp [setBlock, hlt, hWlt]
  · have hf := b w
    have hks : (Instr.keyThatStays (hK k) (hK k)).run Try.prog w = .ok (hK k) w := staysH k w
    have hj2 : es.toList[j]? = some x := by simpa using d
    have hu : ∀ v, (Instr.mapUpdate t (.map (some m)) (hK k) v).run Try.prog w = .ok () (setBlock w m (.map (es.modify j fun e => { e with key := hK k, val := v }) c)) := fun v => by
      simp [Instr.mapUpdate, run_underlying ht, MapKept.run_getObj_map hb, hc, hf, d, f, hks, MapKept.run_setObj_map _ hb, Result.andThen, setBlock]
    have hp : ∀ v, HM (setBlock w m (.map (es.modify j fun e => { e with key := hK k, val := v }) c)) m (n + 1) (updH F k (some v)) := fun v => by
      obtain ⟨w', e1, e2, _⟩ := hput v
      rw [hu v] at e1
      cases e1
      exact e2
    have hsame : es.modify j (fun e => { e with key := hK k }) = es := by
      apply Array.ext'
      rw [Array.toList_modify, modify_eq_set _ _ _ _ hj2]
      have : ({ x with key := hK k } : MapEntry) = x := by rw [← f]
      rw [this]
      exact WideElems.set_self _ _ _ hj2
    refine ⟨x.born, setBlock w m (.map es c), ?_, ?_, ⟨es, c, _, _, hb, rfl⟩, fun W v e => ?_⟩
    · rw [a]
      simp [Instr.mapEntry, run_underlying ht, MapKept.run_getObj_map hb, hc, hf, d, f, hks, hsame, MapKept.run_setObj_map _ hb, Result.andThen, setBlock]
    · rw [a]
      rw [Option.getD_some, updH_id F k a]
      exact (hM.mono (Nat.le_succ n)).keep (by rw [hb]; simp [setBlock, hlt])
    · have hW : W.heap[m]? = some (.map es c) := e.trans (by simp [setBlock, hlt])
      have hWlt : m < W.heap.size := (Array.getElem?_eq_some_iff.1 hW).1
      have hidx : es.findIdx? (fun e => ((e.born : Nat) : Int) == ((x.born : Nat) : Int)) = some j := by
        rw [WideElems.findIdx_arr]
        exact WideElems.findIdx_born h2'.2.1 hj2
      have hmod : (es.modify j fun e => { e with val := v }) = es.modify j (fun e => { e with key := hK k, val := v }) := by
        apply Array.ext'
        rw [Array.toList_modify, Array.toList_modify, modify_eq_set _ _ _ _ hj2, modify_eq_set _ _ _ _ hj2]
        rw [show ({ x with key := hK k, val := v } : MapEntry) = { x with val := v } by rw [← f]]
      refine ⟨setBlock W m (.map (es.modify j fun e => { e with key := hK k, val := v }) c), ?_, (hp v).keep ?_, ⟨_, _, _, _, hW, rfl⟩⟩
      · simp [Instr.entryStore, MapKept.run_getObj_map hW, asInt, asIntOf, goInt, hidx, hmod, MapKept.run_setObj_map _ hW, Result.andThen, setBlock]
      · simp [setBlock, hlt, hWlt]
end
end Go.Proofs.Ytboahmoplgkmnaa.K
