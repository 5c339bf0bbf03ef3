/- Towards the statements of package graph (layer 17): maps from fields. -/
import Derived.Test.YthgpbbpmfpfjnaaLJ
namespace Go.Proofs.Ythgpbbpmfpfjnaa.F
open Go.ChangeShapes Go.WideShapes Go.ChangeAt Go.RowKit
set_option linter.unusedVariables false
set_option linter.unusedSimpArgs false
set_option maxRecDepth 20000
theorem fields60 : ∃ f0 f1, (Try.prog.fieldsOf 60).toList = [f0, f1] ∧ (f0.name ≠ "_" ∧ f0.type = 31 ∧ f0.offset = 0) ∧ (f1.name ≠ "_" ∧ f1.type = 3 ∧ f1.offset = 2) := by
  have e : ((Try.prog.fieldsOf 60).toList.map fun f => (f.name == "_", f.type, f.offset)) = [(false, 31, 0), (false, 3, 2)] := by kernel_rfl
  generalize (Try.prog.fieldsOf 60).toList = l at e ⊢
  rcases l with _ | ⟨f0, _ | ⟨f1, _ | ⟨f2, l⟩⟩⟩
  · simp at e
  · simp at e
  · simp at e
    exact ⟨f0, f1, rfl, e.1, e.2⟩
  · simp at e
theorem pt0 (a b c : Value) (W : World) : (part 31 #[a, b, c] 0).run Try.prog W = .ok (.agg #[a, b]) W := by kernel_rfl
theorem pt2 (a b c : Value) (W : World) : (part 3 #[a, b, c] 2).run Try.prog W = .ok c W := by kernel_rfl
theorem equalH (d : Nat) (a b c s g n : Int) (W : World) : (Op.equalIn (d + 3) 60 (.agg #[.int .i64 a, .int .u64 b, .int .i64 c]) (.agg #[.int .i64 s, .int .u64 g, .int .i64 n])).run Try.prog W = .ok (decide (a = s ∧ b = g ∧ c = n)) W := by
  have h1 : Try.prog.underlying 60 = some (.struct (Try.prog.fieldsOf 60)) := by kernel_rfl
  have h2 : Try.prog.stoodInHeld 60 = false := by kernel_rfl
  rw [run_equalIn_agg W (d + 2) 60 _ _ h1 h2]
  obtain ⟨f0, f1, e, ⟨a1, a2, a3⟩, ⟨b1, b2, b3⟩⟩ := fields60
  rw [e]
  simp only [Op.eqFields, a2, a3, b2, b3, Sem.run_bind, pt0, Result.andThen_ok, Go.Proofs.Ythgpbbpmfpfjnaa.equalH d, if_pos a1, if_pos b1, Sem.run_pure]
  by_cases e1 : a = s
  · subst e1
    by_cases e2 : b = g
    · subst e2
      simp only [beq_self_eq_true, Bool.and_true, Bool.not_true, Bool.false_eq_true, if_false]
      simp only [Sem.run_bind, pt2, Result.andThen_ok, run_equalIn_int W (d + 1) 3 .i64 .i64 c n Try.underlying3, Sem.run_ite, Sem.run_pure]
      by_cases e3 : c = n
      · subst e3; simp
      · simp [e3]
    · simp [e2]
  · simp [e1]
abbrev HKey := (Int × Nat) × Int
def hK (k : HKey) : Value := .agg #[.int .i64 k.1.1, .int .u64 k.1.2, .int .i64 k.2]
theorem hK_inj {a b : HKey} (h : hK a = hK b) : a = b := by
  simp [hK] at h
  exact Prod.ext (Prod.ext h.1 (by omega)) h.2.2
theorem equalK (a b : HKey) (W : World) : (Op.equal 60 (hK a) (hK b)).run Try.prog W = .ok (decide (a = b)) W := by
  show (Op.equalIn 10000 60 _ _).run Try.prog W = _
  unfold hK
  rw [equalH 9997]
  congr 1
  exact decide_eq_decide.2 ⟨fun h => Prod.ext (Prod.ext h.1 (by omega)) h.2.2, fun h => by subst h; exact ⟨rfl, rfl, rfl⟩⟩
theorem askH (k : HKey) : ∀ (l : List MapEntry) (i : Nat), (∀ x ∈ l, ∃ k', x.key = hK k') →
    ((∀ W, (Instr.findAsking 60 (hK k) l i).run Try.prog W = .ok none W) ∧ ∀ x ∈ l, x.key ≠ hK k) ∨ ∃ j e, (∀ W, (Instr.findAsking 60 (hK k) l i).run Try.prog W = .ok (some (i + j, e.val)) W) ∧ l[j]? = some e ∧ e.key = hK k
  | [], i, _ => .inl ⟨fun W => rfl, by simp⟩
  | e :: l, i, h => by
    obtain ⟨k', hk'⟩ := h e (.head _)
    by_cases he : k = k'
    · subst he
      refine .inr ⟨0, e, fun W => ?_, rfl, hk'⟩
      simp [Instr.findAsking, hk', equalK, Result.andThen]
    · have hne : e.key ≠ hK k := fun q => he (hK_inj (q.symm.trans hk'))
      rcases askH k l (i + 1) (fun x hx => h x (.tail _ hx)) with ⟨h1, h2⟩ | ⟨j, e', h1, h2, h3⟩
      · exact .inl ⟨fun W => by simp [Instr.findAsking, hk', equalK, he, h1, Result.andThen], fun x hx => by
          cases hx with
          | head => exact hne
          | tail _ hx => exact h2 x hx⟩
      · exact .inr ⟨j + 1, e', fun W => by simp [Instr.findAsking, hk', equalK, he, h1, Result.andThen]; omega, by simpa using h2, h3⟩
theorem findH (k : HKey) (l : List MapEntry) (h : ∀ x ∈ l, ∃ k', x.key = hK k') :
    ((∀ W, (Instr.findKey 60 (hK k) l).run Try.prog W = .ok none W) ∧ ∀ x ∈ l, x.key ≠ hK k) ∨ ∃ j e, (∀ W, (Instr.findKey 60 (hK k) l).run Try.prog W = .ok (some (j, e.val)) W) ∧ l[j]? = some e ∧ e.key = hK k := by
  cases l with
  | nil => exact .inl ⟨fun W => by simp [Instr.findKey, run_underlying Try.underlying60, Result.andThen, Instr.findNow], by simp⟩
  | cons e l =>
    have h0 : ∀ d, d = Try.prog.fieldsOf 60 → Instr.findNow (.struct d) (hK k) (e :: l) 0 = none := by
      intro d _
      simp [Instr.findNow, Instr.sameNow]
    have hrun : ∀ W, (Instr.findKey 60 (hK k) (e :: l)).run Try.prog W = (Instr.findAsking 60 (hK k) (e :: l) 0).run Try.prog W := fun W => by
      have h1 : Try.prog.underlying 60 = some (.struct (Try.prog.fieldsOf 60)) := by kernel_rfl
      simp [Instr.findKey, run_underlying h1, Result.andThen, h0]
    rcases askH k (e :: l) 0 h with ⟨h1, h2⟩ | ⟨j, e', h1, h2, h3⟩
    · exact .inl ⟨fun W => (hrun W).trans (h1 W), h2⟩
    · exact .inr ⟨j, e', fun W => (hrun W).trans (by rw [h1 W]; simp), h2, h3⟩
theorem checkH (q : Bool) (k : HKey) (W : World) : (Instr.checkKey q 10000 60 (hK k)).run Try.prog W = .ok () W := by
  unfold hK
  kernel_rfl
theorem staysH (k : HKey) (W : World) : (Instr.keyThatStays (hK k) (hK k)).run Try.prog W = .ok (hK k) W := by
  have : Instr.sameBits 10000 (hK k) (hK k) = true := by simp [Instr.sameBits, hK]
  simp [Instr.keyThatStays, this]
/-- Block m is a map of at most n entries, from whole numbers, that has F. -/
def HM (w : World) (m n : Nat) (F : HKey → Option Value) : Prop :=
  ∃ es clock, w.heap[m]? = some (.map es clock) ∧ MapKept.Stamped es clock ∧ es.size ≤ n ∧ (∀ x ∈ es.toList, ∃ k, x.key = hK k ∧ True) ∧ ∀ k v, F k = some v ↔ ∃ x ∈ es.toList, x.key = hK k ∧ x.val = v
def updH (F : HKey → Option Value) (k : HKey) (x : Option Value) : HKey → Option Value := fun s => if s = k then x else F s
theorem updH_self (F : HKey → Option Value) (k : HKey) (x : Option Value) : updH F k x k = x := by simp [updH]
theorem updH_ne (F : HKey → Option Value) {k s : HKey} (x : Option Value) (h : s ≠ k) : updH F k x s = F s := by simp [updH, h]
theorem HM.new (w : World) : HM (w.alloc (.map #[] 0)) w.heap.size 0 (fun _ => none) :=
  ⟨#[], 0, (MapKept.heap_alloc w _).1, MapKept.stamped_empty 0, Nat.le_refl _, by simp, by simp⟩
theorem HM.keep {w w' : World} {m n : Nat} {F : HKey → Option Value} (h : HM w m n F) (e : w'.heap[m]? = w.heap[m]?) : HM w' m n F := by
  obtain ⟨es, c, h1, h2⟩ := h
  exact ⟨es, c, e.trans h1, h2⟩
theorem HM.lt {w : World} {m n : Nat} {F : HKey → Option Value} (h : HM w m n F) : m < w.heap.size := by
  obtain ⟨es, c, h1, h2⟩ := h
  exact (Array.getElem?_eq_some_iff.1 h1).1
theorem HM.mono {w : World} {m n n' : Nat} {F : HKey → Option Value} (h : HM w m n F) (e : n ≤ n') : HM w m n' F := by
  obtain ⟨es, c, h1, h2, h3, h4⟩ := h
  exact ⟨es, c, h1, h2, by omega, h4⟩
theorem HM.alloc {w : World} {m n : Nat} {F : HKey → Option Value} (h : HM w m n F) (o : Obj) : HM (w.alloc o) m n F := h.keep ((MapKept.heap_alloc w o).2 _ h.lt)
theorem HM.find {w : World} {m n : Nat} {F : HKey → Option Value} (h : HM w m n F) (k : HKey) : ∃ es c, w.heap[m]? = some (.map es c) ∧
    ((F k = none ∧ (∀ W, (Instr.findKey 60 (hK k) es.toList).run Try.prog W = .ok none W) ∧ ∀ x ∈ es.toList, x.key ≠ hK k) ∨ ∃ j e, F k = some e.val ∧ (∀ W, (Instr.findKey 60 (hK k) es.toList).run Try.prog W = .ok (some (j, e.val)) W) ∧ es[j]? = some e ∧ e.key = hK k) ∧
    MapKept.Stamped es c ∧ es.size ≤ n ∧ (∀ x ∈ es.toList, ∃ k, x.key = hK k ∧ True) ∧ ∀ k v, F k = some v ↔ ∃ x ∈ es.toList, x.key = hK k ∧ x.val = v := by
  obtain ⟨es, c, h1, h2, h3, h4, h5⟩ := h
  refine ⟨es, c, h1, ?_, h2, h3, h4, h5⟩
  rcases findH k es.toList (fun x hx => by obtain ⟨k', e, _⟩ := h4 x hx; exact ⟨k', e⟩) with ⟨a, b⟩ | ⟨j, e, a, b, d⟩
  · refine .inl ⟨?_, a, b⟩
    cases hF : F k with
    | none => rfl
    | some v =>
      obtain ⟨x, hx, hk, _⟩ := (h5 k v).1 hF
      exact absurd hk (b x hx)
  · have hj : es[j]? = some e := by simpa using b
    exact .inr ⟨j, e, (h5 k _).2 ⟨e, Array.mem_toList_iff.2 (Array.mem_of_getElem? hj), d, rfl⟩, a, hj, d⟩
section
variable {t et : TypeId} (ht : Try.prog.underlying t = some (.map 60 et)) {w : World} {m n : Nat} {F : HKey → Option Value}
include ht
theorem HM.look_yes (h : HM w m n F) {k : HKey} {v : Value} (e : F k = some v) : (Instr.lookup t (.map (some m)) (hK k) true).run Try.prog w = .ok (.tuple #[v, .bool true]) w := by
  obtain ⟨es, c, hb, hf, _⟩ := h.find k
  rcases hf with ⟨a, _⟩ | ⟨j, x, a, b, _⟩
  · rw [a] at e; cases e
  rw [a] at e
  cases e
  have hc : ∀ q, (Instr.checkKey q 10000 60 (hK k)).run Try.prog w = .ok () w := fun q => checkH q k w
  have hf := b w
  simp [Instr.lookup, run_underlying ht, MapKept.run_getObj_map hb, hc, hf, Result.andThen]
theorem HM.look_no (h : HM w m n F) {k : HKey} (e : F k = none) {z : Value} (hz : (zeroValue et).run Try.prog w = .ok z w) : (Instr.lookup t (.map (some m)) (hK k) true).run Try.prog w = .ok (.tuple #[z, .bool false]) w := by
  obtain ⟨es, c, hb, hf, _⟩ := h.find k
  rcases hf with ⟨a, b, _⟩ | ⟨j, x, a, b, _⟩
  · have hc : ∀ q, (Instr.checkKey q 10000 60 (hK k)).run Try.prog w = .ok () w := fun q => checkH q k w
    have hf := b w
    simp [Instr.lookup, run_underlying ht, MapKept.run_getObj_map hb, hc, hf, hz, Result.andThen]
  · rw [a] at e; cases e
theorem HM.look1 (h : HM w m n F) (k : HKey) {z : Value} (hz : (zeroValue et).run Try.prog w = .ok z w) : (Instr.lookup t (.map (some m)) (hK k) false).run Try.prog w = .ok ((F k).getD z) w := by
  obtain ⟨es, c, hb, hf, _⟩ := h.find k
  have hc : ∀ q, (Instr.checkKey q 10000 60 (hK k)).run Try.prog w = .ok () w := fun q => checkH q k w
  rcases hf with ⟨a, b, _⟩ | ⟨j, x, a, b, _⟩
  · have hf := b w
    simp [Instr.lookup, run_underlying ht, MapKept.run_getObj_map hb, hc, hf, hz, a, Result.andThen]
  · have hf := b w
    simp [Instr.lookup, run_underlying ht, MapKept.run_getObj_map hb, hc, hf, a, Result.andThen]
theorem HM.put (h : HM w m n F) {k : HKey} (hi : True) (v : Value) : ∃ w', (Instr.mapUpdate t (.map (some m)) (hK k) v).run Try.prog w = .ok () w' ∧ HM w' m (n + 1) (updH F k (some v)) ∧ w.mapTurned w' m := by
  obtain ⟨es, c, hb, hf, h2, h3, h4, h5⟩ := h.find k
  have hc : ∀ q, (Instr.checkKey q 10000 60 (hK k)).run Try.prog w = .ok () w := fun q => checkH q k w
  rcases hf with ⟨a, b, d⟩ | ⟨j, x, a, b, d, f⟩
  · have hf := b w
    refine ⟨_, by simp [Instr.mapUpdate, run_underlying ht, MapKept.run_getObj_map hb, hc, hf, MapKept.run_setObj_map _ hb, Result.andThen]; rfl, ?_, es, c, _, _, hb, rfl⟩
    refine ⟨_, _, (MapKept.heap_set hb).1, MapKept.stamped_push h2 d, by simp; omega, ?_, fun k' v' => ?_⟩
    · intro x hx
      simp only [Array.toList_push, List.mem_append, List.mem_singleton] at hx
      rcases hx with hx | rfl
      · exact h4 x hx
      · exact ⟨k, rfl, trivial⟩
    · by_cases e : k' = k
      · subst e
        rw [updH_self]
        constructor
        · intro e; cases e; exact ⟨⟨hK k', v, c⟩, by simp, rfl, rfl⟩
        · rintro ⟨x, hx, e1, e2⟩
          simp only [Array.toList_push, List.mem_append, List.mem_singleton] at hx
          rcases hx with hx | rfl
          · exact absurd e1 (d x hx)
          · rw [← e2]
      · rw [updH_ne _ _ e, h5]
        constructor
        · rintro ⟨x, hx, e1, e2⟩; exact ⟨x, by simp; left; simpa using hx, e1, e2⟩
        · rintro ⟨x, hx, e1, e2⟩
          simp only [Array.toList_push, List.mem_append, List.mem_singleton] at hx
          rcases hx with hx | rfl
          · exact ⟨x, hx, e1, e2⟩
          · have e1' := hK_inj e1; exact absurd e1'.symm e
  · have hf := b w
    have hks : (Instr.keyThatStays (hK k) (hK k)).run Try.prog w = .ok (hK k) w := staysH k w
    refine ⟨_, by simp [Instr.mapUpdate, run_underlying ht, MapKept.run_getObj_map hb, hc, hf, d, f, hks, MapKept.run_setObj_map _ hb, Result.andThen]; rfl, ?_, es, c, _, _, hb, rfl⟩
    have hkey : ∀ e', es[j]? = some e' → ({ e' with key := hK k, val := v } : MapEntry).key = e'.key := fun e' he' => by rw [d] at he'; cases he'; exact f.symm
    have hmem : ∀ y, y ∈ (es.modify j fun e => { e with key := hK k, val := v }).toList ↔ ∃ i e, es[i]? = some e ∧ y = if i = j then { e with key := hK k, val := v } else e := by
      intro y
      rw [List.mem_iff_getElem?]
      constructor
      · rintro ⟨i, hi⟩
        rw [Array.getElem?_toList, Array.getElem?_modify] at hi
        split at hi
        · rename_i e
          obtain ⟨e0, h0, h1⟩ := Option.map_eq_some_iff.1 hi
          exact ⟨i, e0, h0, by rw [if_pos e.symm]; exact h1.symm⟩
        · rename_i e
          exact ⟨i, y, hi, by rw [if_neg (Ne.symm e)]⟩
      · rintro ⟨i, e, h0, h1⟩
        refine ⟨i, ?_⟩
        rw [Array.getElem?_toList, Array.getElem?_modify, h0]
        by_cases e2 : i = j
        · rw [if_pos e2.symm]; rw [if_pos e2] at h1; rw [h1]; rfl
        · rw [if_neg (Ne.symm e2)]; rw [if_neg e2] at h1; rw [h1]
    refine ⟨_, _, (MapKept.heap_set hb).1, MapKept.stamped_modify h2 _ _ (fun _ _ => rfl) (fun e' _ he' => hkey e' he'), by simp; omega, ?_, fun k' v' => ?_⟩
    · intro y hy
      obtain ⟨i, e, h0, h1⟩ := (hmem y).1 hy
      split at h1
      · subst h1; exact ⟨k, rfl, trivial⟩
      · subst h1; exact h4 _ (Array.mem_toList_iff.2 (Array.mem_of_getElem? h0))
    · by_cases e : k' = k
      · subst e
        rw [updH_self]
        constructor
        · intro e; cases e; exact ⟨_, (hmem _).2 ⟨j, x, d, by rw [if_pos rfl]⟩, rfl, rfl⟩
        · rintro ⟨y, hy, e1, e2⟩
          obtain ⟨i, e, h0, h1⟩ := (hmem y).1 hy
          split at h1
          · subst h1; rw [← e2]
          · rename_i hne
            subst h1
            refine absurd ?_ hne
            have hx := entry_one h2 (Array.mem_toList_iff.2 (Array.mem_of_getElem? h0)) (Array.mem_toList_iff.2 (Array.mem_of_getElem? d)) (e1.trans f.symm)
            subst hx
            have hnd := h2.2.2
            have hlt := (Array.getElem?_eq_some_iff.1 h0).1
            refine (List.getElem?_inj (l := es.toList.map (·.key)) (by simpa using hlt) hnd).1 ?_
            simp [h0, d]
      · rw [updH_ne _ _ e, h5]
        constructor
        · rintro ⟨y, hy, e1, e2⟩
          obtain ⟨i, hi⟩ := List.mem_iff_getElem?.1 hy
          have hi' : es[i]? = some y := by simpa using hi
          have hne : i ≠ j := by
            rintro rfl
            rw [hi'] at d; cases d
            rw [f] at e1; have e1' := hK_inj e1; exact e e1'.symm
          exact ⟨y, (hmem y).2 ⟨i, y, hi', by rw [if_neg hne]⟩, e1, e2⟩
        · rintro ⟨y, hy, e1, e2⟩
          obtain ⟨i, e0, h0, h1⟩ := (hmem y).1 hy
          split at h1
          · subst h1; have e1' := hK_inj e1; exact absurd e1'.symm e
          · subst h1; exact ⟨_, Array.mem_toList_iff.2 (Array.mem_of_getElem? h0), e1, e2⟩
theorem HM.del (h : HM w m n F) (k : HKey) (ty : TypeId) : ∃ w', (Builtin.delete_ #[t, 60] ty #[.map (some m), hK k]).run Try.prog w = .ok (.tuple #[]) w' ∧ HM w' m n (updH F k none) ∧ w.mapTurned w' m := by
  obtain ⟨es, c, hb, hf, h2, h3, h4, h5⟩ := h.find k
  have hc : ∀ q, (Instr.checkKey q 10000 60 (hK k)).run Try.prog w = .ok () w := fun q => checkH q k w
  rcases hf with ⟨a, b, d⟩ | ⟨j, x, a, b, d, f⟩
  · have hf := b w
    refine ⟨_, by simp [Builtin.delete_, run_underlying ht, MapKept.run_getObj_map hb, hc, hf, MapKept.run_setObj_map _ hb, Result.andThen]; rfl, ?_, es, c, _, _, hb, rfl⟩
    refine ⟨_, _, (MapKept.heap_set hb).1, h2, h3, h4, fun k' v' => ?_⟩
    by_cases e : k' = k
    · subst e
      rw [updH_self]
      constructor
      · intro e; cases e
      · rintro ⟨x, hx, e1, e2⟩; exact absurd e1 (d x hx)
    · rw [updH_ne _ _ e, h5]
  · have hf := b w
    have hlt := (Array.getElem?_eq_some_iff.1 d).1
    refine ⟨_, by simp [Builtin.delete_, run_underlying ht, MapKept.run_getObj_map hb, hc, hf, MapKept.run_setObj_map _ hb, Result.andThen]; rfl, ?_, es, c, _, _, hb, rfl⟩
    have hse := MapKept.stamped_erase h2 j
    have ee : (es.eraseIdxIfInBounds j).toList = es.toList.eraseIdx j := by simp [Array.eraseIdxIfInBounds, hlt]
    have hsub : ∀ y ∈ (es.eraseIdxIfInBounds j).toList, y ∈ es.toList := fun y hy => by rw [ee] at hy; exact (List.eraseIdx_sublist _ _).subset hy
    refine ⟨_, _, (MapKept.heap_set hb).1, hse, ?_, fun y hy => h4 y (hsub y hy), fun k' v' => ?_⟩
    · have : (es.eraseIdxIfInBounds j).toList.length ≤ es.toList.length := by rw [ee]; exact List.length_eraseIdx_le _ _
      rw [Array.length_toList, Array.length_toList] at this; omega
    · have hgone : ∀ y ∈ (es.eraseIdxIfInBounds j).toList, y.key ≠ hK k := by
        intro y hy e1
        rw [ee, List.mem_eraseIdx_iff_getElem?] at hy
        obtain ⟨i, hne, hi⟩ := hy
        have hi' : es[i]? = some y := by simpa using hi
        have hx := entry_one h2 (Array.mem_toList_iff.2 (Array.mem_of_getElem? hi')) (Array.mem_toList_iff.2 (Array.mem_of_getElem? d)) (e1.trans f.symm)
        subst hx
        refine hne ((List.getElem?_inj (l := es.toList.map (·.key)) ?_ h2.2.2).1 ?_)
        · simpa using (Array.getElem?_eq_some_iff.1 hi').1
        · simp [hi', d]
      by_cases e : k' = k
      · subst e
        rw [updH_self]
        constructor
        · intro e; cases e
        · rintro ⟨y, hy, e1, e2⟩; exact absurd e1 (hgone y hy)
      · rw [updH_ne _ _ e, h5]
        constructor
        · rintro ⟨y, hy, e1, e2⟩
          refine ⟨y, ?_, e1, e2⟩
          obtain ⟨i, hi⟩ := List.mem_iff_getElem?.1 hy
          rw [ee, List.mem_eraseIdx_iff_getElem?]
          refine ⟨i, ?_, hi⟩
          rintro rfl
          have hi' : es[i]? = some y := by simpa using hi
          rw [hi'] at d; cases d
          rw [f] at e1; have e1' := hK_inj e1; exact e e1'.symm
        · rintro ⟨y, hy, e1, e2⟩; exact ⟨y, hsub y hy, e1, e2⟩
end

theorem HM.notcells {w : World} {m n : Nat} {F : HKey → Option Value} (h : HM w m n F) {cs : Array Value} {t : TypeId} {z : Nat × Nat} (e : w.heap[m]? = some (.cells cs t z)) : False := by
  obtain ⟨es, c, h1, _⟩ := h
  rw [h1] at e
  cases e
theorem HM.drewN {w : World} {m n : Nat} {F : HKey → Option Value} (h : HM w m n F) (k : Nat) : HM (w.drewN k) m n F := h
theorem HM.count {w : World} {m n : Nat} {F : HKey → Option Value} (h : HM w m n F) {K : List HKey} (hn : K.Nodup) (hm : ∀ k, k ∈ K ↔ (F k).isSome = true) : ∃ es c, w.heap[m]? = some (.map es c) ∧ es.size = K.length := by
  obtain ⟨es, c, h1, h2, h3, h4, h5⟩ := h
  refine ⟨es, c, h1, ?_⟩
  have a : (es.toList.map (·.key)).Nodup := h2.2.2
  have b : (K.map (fun k => hK k)).Nodup := by
    rw [List.Nodup, List.pairwise_map]
    exact hn.imp fun {x y} hxy e => hxy (hK_inj e)
  have p : (es.toList.map (·.key)).Perm (K.map (fun k => hK k)) := by
    refine (List.perm_ext_iff_of_nodup a b).2 fun v => ?_
    rw [List.mem_map, List.mem_map]
    constructor
    · rintro ⟨x, hx, rfl⟩
      obtain ⟨k, hk, _⟩ := h4 x hx
      refine ⟨k, (hm k).2 ?_, hk.symm⟩
      rw [(h5 k x.val).2 ⟨x, hx, hk, rfl⟩]
      rfl
    · rintro ⟨k, hk, rfl⟩
      obtain ⟨v, hv⟩ := Option.isSome_iff_exists.1 ((hm k).1 hk)
      obtain ⟨x, hx, e, _⟩ := (h5 k v).1 hv
      exact ⟨x, hx, e⟩
  have := p.length_eq
  simpa using this
end Go.Proofs.Ythgpbbpmfpfjnaa.F
