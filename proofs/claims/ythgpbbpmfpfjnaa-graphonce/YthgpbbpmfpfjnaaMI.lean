/- Maps from whole numbers, in memory, as functions (no program in it). -/
import Derived.Test.YthgpbbpmfpfjnaaRows
import Derived.WalkKit
import Derived.ProofKit
import Derived.OpenShut
import Derived.Below
import Derived.Carry
import Derived.MapKept
import Derived.Maps.OwnSet
import Derived.Maps.OwnOps
import Derived.Lib.SlKeysI
namespace Go.Proofs.Ythgpbbpmfpfjnaa
open Go.ChangeShapes Go.WideShapes Go.ChangeAt Go.RowKit
set_option linter.unusedVariables false
set_option linter.unusedSimpArgs false
def I64 (x : Int) : Prop := -9223372036854775808 ≤ x ∧ x ≤ 9223372036854775807
/-- Block m is a map of at most n entries, from whole numbers, that has F. -/
def IM (w : World) (m n : Nat) (F : Int → Option Value) : Prop :=
  ∃ es clock, w.heap[m]? = some (.map es clock) ∧ MapKept.Stamped es clock ∧ es.size ≤ n ∧ (∀ x ∈ es.toList, ∃ k, x.key = .int .i64 k ∧ I64 k) ∧ ∀ k v, F k = some v ↔ ∃ x ∈ es.toList, x.key = .int .i64 k ∧ x.val = v
def updF (F : Int → Option Value) (k : Int) (x : Option Value) : Int → Option Value := fun s => if s = k then x else F s
theorem updF_self (F : Int → Option Value) (k : Int) (x : Option Value) : updF F k x k = x := by simp [updF]
theorem updF_ne (F : Int → Option Value) {k s : Int} (x : Option Value) (h : s ≠ k) : updF F k x s = F s := by simp [updF, h]
theorem IM.new (w : World) : IM (w.alloc (.map #[] 0)) w.heap.size 0 (fun _ => none) :=
  ⟨#[], 0, (MapKept.heap_alloc w _).1, MapKept.stamped_empty 0, Nat.le_refl _, by simp, by simp⟩
theorem IM.keep {w w' : World} {m n : Nat} {F : Int → Option Value} (h : IM w m n F) (e : w'.heap[m]? = w.heap[m]?) : IM w' m n F := by
  obtain ⟨es, c, h1, h2⟩ := h
  exact ⟨es, c, e.trans h1, h2⟩
theorem IM.lt {w : World} {m n : Nat} {F : Int → Option Value} (h : IM w m n F) : m < w.heap.size := by
  obtain ⟨es, c, h1, h2⟩ := h
  exact (Array.getElem?_eq_some_iff.1 h1).1
theorem IM.mono {w : World} {m n n' : Nat} {F : Int → Option Value} (h : IM w m n F) (e : n ≤ n') : IM w m n' F := by
  obtain ⟨es, c, h1, h2, h3, h4⟩ := h
  exact ⟨es, c, h1, h2, by omega, h4⟩
theorem IM.alloc {w : World} {m n : Nat} {F : Int → Option Value} (h : IM w m n F) (o : Obj) : IM (w.alloc o) m n F := h.keep ((MapKept.heap_alloc w o).2 _ h.lt)
theorem IM.key {w : World} {m n : Nat} {F : Int → Option Value} (h : IM w m n F) {k : Int} {v : Value} (e : F k = some v) : I64 k := by
  obtain ⟨es, c, h1, h2, h3, h4, h5⟩ := h
  obtain ⟨x, hx, hk, _⟩ := (h5 k v).1 e
  obtain ⟨k', hk', hi⟩ := h4 x hx
  rw [hk] at hk'
  cases hk'
  exact hi
theorem isKey_int (k : Int) : MapKept.IsKey (.int .i64) (.int .i64 k) := rfl
theorem entry_one {es : Array MapEntry} {c : Nat} (hs : MapKept.Stamped es c) {x y : MapEntry} (hx : x ∈ es.toList) (hy : y ∈ es.toList) (e : x.key = y.key) : x = y := by
  obtain ⟨i, hi⟩ := List.mem_iff_getElem?.1 hx
  obtain ⟨j, hj⟩ := List.mem_iff_getElem?.1 hy
  have hlt := (List.getElem?_eq_some_iff.1 hi).1
  have : i = j := (List.getElem?_inj (l := es.toList.map (·.key)) (by simpa using hlt) hs.2.2).1 (by rw [List.getElem?_map, List.getElem?_map, hi, hj]; simp [e])
  subst this
  rw [hi] at hj
  exact Option.some.inj hj
theorem IM.find {w : World} {m n : Nat} {F : Int → Option Value} (h : IM w m n F) (k : Int) : ∃ es c, w.heap[m]? = some (.map es c) ∧
    ((F k = none ∧ Instr.findNow (.int .i64) (.int .i64 k) es.toList 0 = some none ∧ ∀ x ∈ es.toList, x.key ≠ .int .i64 k) ∨ ∃ j e, F k = some e.val ∧ Instr.findNow (.int .i64) (.int .i64 k) es.toList 0 = some (some (j, e.val)) ∧ es[j]? = some e ∧ e.key = .int .i64 k) ∧
    MapKept.Stamped es c ∧ es.size ≤ n ∧ (∀ x ∈ es.toList, ∃ k, x.key = .int .i64 k ∧ I64 k) ∧ ∀ k v, F k = some v ↔ ∃ x ∈ es.toList, x.key = .int .i64 k ∧ x.val = v := by
  obtain ⟨es, c, h1, h2, h3, h4, h5⟩ := h
  refine ⟨es, c, h1, ?_, h2, h3, h4, h5⟩
  rcases MapKept.findNow_spec (isKey_int k) es.toList 0 (fun x hx => by obtain ⟨k', e, _⟩ := h4 x hx; rw [e]; rfl) with ⟨a, b⟩ | ⟨j, e, a, b, d⟩
  · refine .inl ⟨?_, a, b⟩
    cases hF : F k with
    | none => rfl
    | some v =>
      obtain ⟨x, hx, hk, _⟩ := (h5 k v).1 hF
      exact absurd hk (b x hx)
  · have hj : es[j]? = some e := by simpa using b
    exact .inr ⟨j, e, (h5 k _).2 ⟨e, Array.mem_toList_iff.2 (Array.mem_of_getElem? hj), d, rfl⟩, by simpa using a, hj, d⟩
section
variable {P : Program} {t kt et : TypeId} (ht : P.underlying t = some (.map kt et)) (hk : P.underlying kt = some (.int .i64)) {w : World} {m n : Nat} {F : Int → Option Value}
include ht hk
theorem IM.look_yes (h : IM w m n F) {k : Int} {v : Value} (e : F k = some v) : (Instr.lookup t (.map (some m)) (.int .i64 k) true).run P w = .ok (.tuple #[v, .bool true]) w := by
  obtain ⟨es, c, hb, hf, _⟩ := h.find k
  rcases hf with ⟨a, _⟩ | ⟨j, x, a, b, _⟩
  · rw [a] at e; cases e
  rw [a] at e
  cases e
  have hc : ∀ q, (Instr.checkKey q 10000 kt (.int .i64 k)).run P w = .ok () w := fun q => MapKept.run_checkKey hk (by simp [MapKept.IsKey]) q 9999
  have hf := MapKept.run_findKey (P := P) (w := w) hk b
  simp [Instr.lookup, run_underlying ht, MapKept.run_getObj_map hb, hc, hf, Result.andThen]
theorem IM.look_no (h : IM w m n F) {k : Int} (e : F k = none) {z : Value} (hz : (zeroValue et).run P w = .ok z w) : (Instr.lookup t (.map (some m)) (.int .i64 k) true).run P w = .ok (.tuple #[z, .bool false]) w := by
  obtain ⟨es, c, hb, hf, _⟩ := h.find k
  rcases hf with ⟨a, b, _⟩ | ⟨j, x, a, b, _⟩
  · have hc : ∀ q, (Instr.checkKey q 10000 kt (.int .i64 k)).run P w = .ok () w := fun q => MapKept.run_checkKey hk (by simp [MapKept.IsKey]) q 9999
    have hf := MapKept.run_findKey (P := P) (w := w) hk b
    simp [Instr.lookup, run_underlying ht, MapKept.run_getObj_map hb, hc, hf, hz, Result.andThen]
  · rw [a] at e; cases e
theorem IM.look1 (h : IM w m n F) (k : Int) {z : Value} (hz : (zeroValue et).run P w = .ok z w) : (Instr.lookup t (.map (some m)) (.int .i64 k) false).run P w = .ok ((F k).getD z) w := by
  obtain ⟨es, c, hb, hf, _⟩ := h.find k
  have hc : ∀ q, (Instr.checkKey q 10000 kt (.int .i64 k)).run P w = .ok () w := fun q => MapKept.run_checkKey hk (by simp [MapKept.IsKey]) q 9999
  rcases hf with ⟨a, b, _⟩ | ⟨j, x, a, b, _⟩
  · have hf := MapKept.run_findKey (P := P) (w := w) hk b
    simp [Instr.lookup, run_underlying ht, MapKept.run_getObj_map hb, hc, hf, hz, a, Result.andThen]
  · have hf := MapKept.run_findKey (P := P) (w := w) hk b
    simp [Instr.lookup, run_underlying ht, MapKept.run_getObj_map hb, hc, hf, a, Result.andThen]
theorem IM.put (h : IM w m n F) {k : Int} (hi : I64 k) (v : Value) : ∃ w', (Instr.mapUpdate t (.map (some m)) (.int .i64 k) v).run P w = .ok () w' ∧ IM w' m (n + 1) (updF F k (some v)) ∧ w.mapTurned w' m := by
  obtain ⟨es, c, hb, hf, h2, h3, h4, h5⟩ := h.find k
  have hc : ∀ q, (Instr.checkKey q 10000 kt (.int .i64 k)).run P w = .ok () w := fun q => MapKept.run_checkKey hk (by simp [MapKept.IsKey]) q 9999
  rcases hf with ⟨a, b, d⟩ | ⟨j, x, a, b, d, f⟩
  · have hf := MapKept.run_findKey (P := P) (w := w) hk b
    refine ⟨_, by simp [Instr.mapUpdate, run_underlying ht, MapKept.run_getObj_map hb, hc, hf, MapKept.run_setObj_map _ hb, Result.andThen]; rfl, ?_, es, c, _, _, hb, rfl⟩
    refine ⟨_, _, (MapKept.heap_set hb).1, MapKept.stamped_push h2 d, by simp; omega, ?_, fun k' v' => ?_⟩
    · intro x hx
      simp only [Array.toList_push, List.mem_append, List.mem_singleton] at hx
      rcases hx with hx | rfl
      · exact h4 x hx
      · exact ⟨k, rfl, hi⟩
    · by_cases e : k' = k
      · subst e
        rw [updF_self]
        constructor
        · intro e; cases e; exact ⟨⟨.int .i64 k', v, c⟩, by simp, rfl, rfl⟩
        · rintro ⟨x, hx, e1, e2⟩
          simp only [Array.toList_push, List.mem_append, List.mem_singleton] at hx
          rcases hx with hx | rfl
          · exact absurd e1 (d x hx)
          · rw [← e2]
      · rw [updF_ne _ _ e, h5]
        constructor
        · rintro ⟨x, hx, e1, e2⟩; exact ⟨x, by simp; left; simpa using hx, e1, e2⟩
        · rintro ⟨x, hx, e1, e2⟩
          simp only [Array.toList_push, List.mem_append, List.mem_singleton] at hx
          rcases hx with hx | rfl
          · exact ⟨x, hx, e1, e2⟩
          · simp at e1; exact absurd e1.symm e
  · have hf := MapKept.run_findKey (P := P) (w := w) hk b
    have hks : (Instr.keyThatStays (.int .i64 k) (.int .i64 k)).run P w = .ok (.int .i64 k) w := MapKept.run_keyThatStays (isKey_int k)
    refine ⟨_, by simp [Instr.mapUpdate, run_underlying ht, MapKept.run_getObj_map hb, hc, hf, d, f, hks, MapKept.run_setObj_map _ hb, Result.andThen]; rfl, ?_, es, c, _, _, hb, rfl⟩
    have hkey : ∀ e', es[j]? = some e' → ({ e' with key := .int .i64 k, val := v } : MapEntry).key = e'.key := fun e' he' => by rw [d] at he'; cases he'; exact f.symm
    have hmem : ∀ y, y ∈ (es.modify j fun e => { e with key := .int .i64 k, val := v }).toList ↔ ∃ i e, es[i]? = some e ∧ y = if i = j then { e with key := .int .i64 k, val := v } else e := by
      intro y
      rw [List.mem_iff_getElem?]
      constructor
      · rintro ⟨i, hi⟩
        rw [Array.getElem?_toList, Array.getElem?_modify] at hi
        split at hi
        · rename_i e
          obtain ⟨e0, h0, h1⟩ := Option.map_eq_some_iff.1 hi
          exact ⟨i, e0, h0, by rw [if_pos e.symm]; exact h1.symm⟩
        · rename_i e
          exact ⟨i, y, hi, by rw [if_neg (Ne.symm e)]⟩
      · rintro ⟨i, e, h0, h1⟩
        refine ⟨i, ?_⟩
        rw [Array.getElem?_toList, Array.getElem?_modify, h0]
        by_cases e2 : i = j
        · rw [if_pos e2.symm]; rw [if_pos e2] at h1; rw [h1]; rfl
        · rw [if_neg (Ne.symm e2)]; rw [if_neg e2] at h1; rw [h1]
    refine ⟨_, _, (MapKept.heap_set hb).1, MapKept.stamped_modify h2 _ _ (fun _ _ => rfl) (fun e' _ he' => hkey e' he'), by simp; omega, ?_, fun k' v' => ?_⟩
    · intro y hy
      obtain ⟨i, e, h0, h1⟩ := (hmem y).1 hy
      split at h1
      · subst h1; exact ⟨k, rfl, hi⟩
      · subst h1; exact h4 _ (Array.mem_toList_iff.2 (Array.mem_of_getElem? h0))
    · by_cases e : k' = k
      · subst e
        rw [updF_self]
        constructor
        · intro e; cases e; exact ⟨_, (hmem _).2 ⟨j, x, d, by rw [if_pos rfl]⟩, rfl, rfl⟩
        · rintro ⟨y, hy, e1, e2⟩
          obtain ⟨i, e, h0, h1⟩ := (hmem y).1 hy
          split at h1
          · subst h1; rw [← e2]
          · rename_i hne
            subst h1
            refine absurd ?_ hne
            have hx := entry_one h2 (Array.mem_toList_iff.2 (Array.mem_of_getElem? h0)) (Array.mem_toList_iff.2 (Array.mem_of_getElem? d)) (e1.trans f.symm)
            subst hx
            have hnd := h2.2.2
            have hlt := (Array.getElem?_eq_some_iff.1 h0).1
            refine (List.getElem?_inj (l := es.toList.map (·.key)) (by simpa using hlt) hnd).1 ?_
            simp [h0, d]
      · rw [updF_ne _ _ e, h5]
        constructor
        · rintro ⟨y, hy, e1, e2⟩
          obtain ⟨i, hi⟩ := List.mem_iff_getElem?.1 hy
          have hi' : es[i]? = some y := by simpa using hi
          have hne : i ≠ j := by
            rintro rfl
            rw [hi'] at d; cases d
            rw [f] at e1; simp at e1; exact e e1.symm
          exact ⟨y, (hmem y).2 ⟨i, y, hi', by rw [if_neg hne]⟩, e1, e2⟩
        · rintro ⟨y, hy, e1, e2⟩
          obtain ⟨i, e0, h0, h1⟩ := (hmem y).1 hy
          split at h1
          · subst h1; simp at e1; exact absurd e1.symm e
          · subst h1; exact ⟨_, Array.mem_toList_iff.2 (Array.mem_of_getElem? h0), e1, e2⟩
theorem IM.del (h : IM w m n F) (k : Int) (ty : TypeId) : ∃ w', (Builtin.delete_ #[t, kt] ty #[.map (some m), .int .i64 k]).run P w = .ok (.tuple #[]) w' ∧ IM w' m n (updF F k none) ∧ w.mapTurned w' m := by
  obtain ⟨es, c, hb, hf, h2, h3, h4, h5⟩ := h.find k
  have hc : ∀ q, (Instr.checkKey q 10000 kt (.int .i64 k)).run P w = .ok () w := fun q => MapKept.run_checkKey hk (by simp [MapKept.IsKey]) q 9999
  rcases hf with ⟨a, b, d⟩ | ⟨j, x, a, b, d, f⟩
  · have hf := MapKept.run_findKey (P := P) (w := w) hk b
    refine ⟨_, by simp [Builtin.delete_, run_underlying ht, MapKept.run_getObj_map hb, hc, hf, MapKept.run_setObj_map _ hb, Result.andThen]; rfl, ?_, es, c, _, _, hb, rfl⟩
    refine ⟨_, _, (MapKept.heap_set hb).1, h2, h3, h4, fun k' v' => ?_⟩
    by_cases e : k' = k
    · subst e
      rw [updF_self]
      constructor
      · intro e; cases e
      · rintro ⟨x, hx, e1, e2⟩; exact absurd e1 (d x hx)
    · rw [updF_ne _ _ e, h5]
  · have hf := MapKept.run_findKey (P := P) (w := w) hk b
    have hlt := (Array.getElem?_eq_some_iff.1 d).1
    refine ⟨_, by simp [Builtin.delete_, run_underlying ht, MapKept.run_getObj_map hb, hc, hf, MapKept.run_setObj_map _ hb, Result.andThen]; rfl, ?_, es, c, _, _, hb, rfl⟩
    have hse := MapKept.stamped_erase h2 j
    have ee : (es.eraseIdxIfInBounds j).toList = es.toList.eraseIdx j := by simp [Array.eraseIdxIfInBounds, hlt]
    have hsub : ∀ y ∈ (es.eraseIdxIfInBounds j).toList, y ∈ es.toList := fun y hy => by rw [ee] at hy; exact (List.eraseIdx_sublist _ _).subset hy
    refine ⟨_, _, (MapKept.heap_set hb).1, hse, ?_, fun y hy => h4 y (hsub y hy), fun k' v' => ?_⟩
    · have : (es.eraseIdxIfInBounds j).toList.length ≤ es.toList.length := by rw [ee]; exact List.length_eraseIdx_le _ _
      rw [Array.length_toList, Array.length_toList] at this; omega
    · have hgone : ∀ y ∈ (es.eraseIdxIfInBounds j).toList, y.key ≠ .int .i64 k := by
        intro y hy e1
        rw [ee, List.mem_eraseIdx_iff_getElem?] at hy
        obtain ⟨i, hne, hi⟩ := hy
        have hi' : es[i]? = some y := by simpa using hi
        have hx := entry_one h2 (Array.mem_toList_iff.2 (Array.mem_of_getElem? hi')) (Array.mem_toList_iff.2 (Array.mem_of_getElem? d)) (e1.trans f.symm)
        subst hx
        refine hne ((List.getElem?_inj (l := es.toList.map (·.key)) ?_ h2.2.2).1 ?_)
        · simpa using (Array.getElem?_eq_some_iff.1 hi').1
        · simp [hi', d]
      by_cases e : k' = k
      · subst e
        rw [updF_self]
        constructor
        · intro e; cases e
        · rintro ⟨y, hy, e1, e2⟩; exact absurd e1 (hgone y hy)
      · rw [updF_ne _ _ e, h5]
        constructor
        · rintro ⟨y, hy, e1, e2⟩
          refine ⟨y, ?_, e1, e2⟩
          obtain ⟨i, hi⟩ := List.mem_iff_getElem?.1 hy
          rw [ee, List.mem_eraseIdx_iff_getElem?]
          refine ⟨i, ?_, hi⟩
          rintro rfl
          have hi' : es[i]? = some y := by simpa using hi
          rw [hi'] at d; cases d
          rw [f] at e1; simp at e1; exact e e1.symm
        · rintro ⟨y, hy, e1, e2⟩; exact ⟨y, hsub y hy, e1, e2⟩
end
end Go.Proofs.Ythgpbbpmfpfjnaa
