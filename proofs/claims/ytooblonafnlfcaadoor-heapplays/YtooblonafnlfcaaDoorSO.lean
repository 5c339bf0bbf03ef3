/- Towards the statements of package slab (layer 12): maps from whole numbers; rows of bytes and of flags as arguments. -/
import Derived.Test.YtooblonafnlfcaaDoorSN
import Derived.Test.YtooblonafnlfcaaDoorSK
import Derived.MapKept
import Derived.Maps.OwnSet
import Derived.Maps.OwnOps
import Derived.ChangeSlices
namespace Go.Proofs.YtooblonafnlfcaaDoor
open Go.ChangeShapes Go.WideShapes Go.ChangeAt Go.RowKit
set_option linter.unusedVariables false
set_option linter.unusedSimpArgs false
set_option maxRecDepth 20000
variable {Yo : Nat → Prop}
/-- Block m is a map of at most n entries, from whole numbers, that has F. -/
def IM (w : World) (m n : Nat) (F : Int → Option Value) : Prop :=
  ∃ es clock, w.heap[m]? = some (.map es clock) ∧ MapKept.Stamped es clock ∧ es.size ≤ n ∧ (∀ x ∈ es.toList, ∃ k, x.key = .int .i64 k ∧ I64 k) ∧ ∀ k v, F k = some v ↔ ∃ x ∈ es.toList, x.key = .int .i64 k ∧ x.val = v
def updF (F : Int → Option Value) (k : Int) (x : Option Value) : Int → Option Value := fun s => if s = k then x else F s
theorem updF_self (F : Int → Option Value) (k : Int) (x : Option Value) : updF F k x k = x := by simp [updF]
theorem updF_ne (F : Int → Option Value) {k s : Int} (x : Option Value) (h : s ≠ k) : updF F k x s = F s := by simp [updF, h]
theorem IM.new (w : World) : IM (w.alloc (.map #[] 0)) w.heap.size 0 (fun _ => none) :=
  ⟨#[], 0, (MapKept.heap_alloc w _).1, MapKept.stamped_empty 0, Nat.le_refl _, by simp, by simp⟩
theorem IM.keep {w w' : World} {m n : Nat} {F : Int → Option Value} (h : IM w m n F) (e : w'.heap[m]? = w.heap[m]?) : IM w' m n F := by
  obtain ⟨es, c, h1, h2⟩ := h
  exact ⟨es, c, e.trans h1, h2⟩
theorem IM.lt {w : World} {m n : Nat} {F : Int → Option Value} (h : IM w m n F) : m < w.heap.size := by
  obtain ⟨es, c, h1, h2⟩ := h
  exact (Array.getElem?_eq_some_iff.1 h1).1
theorem IM.mono {w : World} {m n n' : Nat} {F : Int → Option Value} (h : IM w m n F) (e : n ≤ n') : IM w m n' F := by
  obtain ⟨es, c, h1, h2, h3, h4⟩ := h
  exact ⟨es, c, h1, h2, by omega, h4⟩
theorem IM.alloc {w : World} {m n : Nat} {F : Int → Option Value} (h : IM w m n F) (o : Obj) : IM (w.alloc o) m n F := h.keep ((MapKept.heap_alloc w o).2 _ h.lt)
theorem IM.key {w : World} {m n : Nat} {F : Int → Option Value} (h : IM w m n F) {k : Int} {v : Value} (e : F k = some v) : I64 k := by
  obtain ⟨es, c, h1, h2, h3, h4, h5⟩ := h
  obtain ⟨x, hx, hk, _⟩ := (h5 k v).1 e
  obtain ⟨k', hk', hi⟩ := h4 x hx
  rw [hk] at hk'
  cases hk'
  exact hi
theorem isKey_int (k : Int) : MapKept.IsKey (.int .i64) (.int .i64 k) := rfl
theorem entry_one {es : Array MapEntry} {c : Nat} (hs : MapKept.Stamped es c) {x y : MapEntry} (hx : x ∈ es.toList) (hy : y ∈ es.toList) (e : x.key = y.key) : x = y := by
  obtain ⟨i, hi⟩ := List.mem_iff_getElem?.1 hx
  obtain ⟨j, hj⟩ := List.mem_iff_getElem?.1 hy
  have hlt := (List.getElem?_eq_some_iff.1 hi).1
  have : i = j := (List.getElem?_inj (l := es.toList.map (·.key)) (by simpa using hlt) hs.2.2).1 (by rw [List.getElem?_map, List.getElem?_map, hi, hj]; simp [e])
  subst this
  rw [hi] at hj
  exact Option.some.inj hj
theorem IM.find {w : World} {m n : Nat} {F : Int → Option Value} (h : IM w m n F) (k : Int) : ∃ es c, w.heap[m]? = some (.map es c) ∧
    ((F k = none ∧ Instr.findNow (.int .i64) (.int .i64 k) es.toList 0 = some none ∧ ∀ x ∈ es.toList, x.key ≠ .int .i64 k) ∨ ∃ j e, F k = some e.val ∧ Instr.findNow (.int .i64) (.int .i64 k) es.toList 0 = some (some (j, e.val)) ∧ es[j]? = some e ∧ e.key = .int .i64 k) ∧
    MapKept.Stamped es c ∧ es.size ≤ n ∧ (∀ x ∈ es.toList, ∃ k, x.key = .int .i64 k ∧ I64 k) ∧ ∀ k v, F k = some v ↔ ∃ x ∈ es.toList, x.key = .int .i64 k ∧ x.val = v := by
  obtain ⟨es, c, h1, h2, h3, h4, h5⟩ := h
  refine ⟨es, c, h1, ?_, h2, h3, h4, h5⟩
  rcases MapKept.findNow_spec (isKey_int k) es.toList 0 (fun x hx => by obtain ⟨k', e, _⟩ := h4 x hx; rw [e]; rfl) with ⟨a, b⟩ | ⟨j, e, a, b, d⟩
  · refine .inl ⟨?_, a, b⟩
    cases hF : F k with
    | none => rfl
    | some v =>
      obtain ⟨x, hx, hk, _⟩ := (h5 k v).1 hF
      exact absurd hk (b x hx)
  · have hj : es[j]? = some e := by simpa using b
    exact .inr ⟨j, e, (h5 k _).2 ⟨e, Array.mem_toList_iff.2 (Array.mem_of_getElem? hj), d, rfl⟩, by simpa using a, hj, d⟩
section
variable {P : Program} {t kt et : TypeId} (ht : P.underlying t = some (.map kt et)) (hk : P.underlying kt = some (.int .i64)) {w : World} {m n : Nat} {F : Int → Option Value}
include ht hk
theorem IM.look_yes (h : IM w m n F) {k : Int} {v : Value} (e : F k = some v) : (Instr.lookup t (.map (some m)) (.int .i64 k) true).run P w = .ok (.tuple #[v, .bool true]) w := by
  obtain ⟨es, c, hb, hf, _⟩ := h.find k
  rcases hf with ⟨a, _⟩ | ⟨j, x, a, b, _⟩
  · rw [a] at e; cases e
  rw [a] at e
  cases e
  have hc : ∀ q, (Instr.checkKey q 10000 kt (.int .i64 k)).run P w = .ok () w := fun q => MapKept.run_checkKey hk (by simp [MapKept.IsKey]) q 9999
  have hf := MapKept.run_findKey (P := P) (w := w) hk b
  simp [Instr.lookup, run_underlying ht, MapKept.run_getObj_map hb, hc, hf, Result.andThen]
theorem IM.look_no (h : IM w m n F) {k : Int} (e : F k = none) {z : Value} (hz : (zeroValue et).run P w = .ok z w) : (Instr.lookup t (.map (some m)) (.int .i64 k) true).run P w = .ok (.tuple #[z, .bool false]) w := by
  obtain ⟨es, c, hb, hf, _⟩ := h.find k
  rcases hf with ⟨a, b, _⟩ | ⟨j, x, a, b, _⟩
  · have hc : ∀ q, (Instr.checkKey q 10000 kt (.int .i64 k)).run P w = .ok () w := fun q => MapKept.run_checkKey hk (by simp [MapKept.IsKey]) q 9999
    have hf := MapKept.run_findKey (P := P) (w := w) hk b
    simp [Instr.lookup, run_underlying ht, MapKept.run_getObj_map hb, hc, hf, hz, Result.andThen]
  · rw [a] at e; cases e
theorem IM.look1 (h : IM w m n F) (k : Int) {z : Value} (hz : (zeroValue et).run P w = .ok z w) : (Instr.lookup t (.map (some m)) (.int .i64 k) false).run P w = .ok ((F k).getD z) w := by
  obtain ⟨es, c, hb, hf, _⟩ := h.find k
  have hc : ∀ q, (Instr.checkKey q 10000 kt (.int .i64 k)).run P w = .ok () w := fun q => MapKept.run_checkKey hk (by simp [MapKept.IsKey]) q 9999
  rcases hf with ⟨a, b, _⟩ | ⟨j, x, a, b, _⟩
  · have hf := MapKept.run_findKey (P := P) (w := w) hk b
    simp [Instr.lookup, run_underlying ht, MapKept.run_getObj_map hb, hc, hf, hz, a, Result.andThen]
  · have hf := MapKept.run_findKey (P := P) (w := w) hk b
    simp [Instr.lookup, run_underlying ht, MapKept.run_getObj_map hb, hc, hf, a, Result.andThen]
theorem IM.put (h : IM w m n F) {k : Int} (hi : I64 k) (v : Value) : ∃ w', (Instr.mapUpdate t (.map (some m)) (.int .i64 k) v).run P w = .ok () w' ∧ IM w' m (n + 1) (updF F k (some v)) ∧ w.mapTurned w' m := by
  obtain ⟨es, c, hb, hf, h2, h3, h4, h5⟩ := h.find k
  have hc : ∀ q, (Instr.checkKey q 10000 kt (.int .i64 k)).run P w = .ok () w := fun q => MapKept.run_checkKey hk (by simp [MapKept.IsKey]) q 9999
  rcases hf with ⟨a, b, d⟩ | ⟨j, x, a, b, d, f⟩
  · have hf := MapKept.run_findKey (P := P) (w := w) hk b
    refine ⟨_, by simp [Instr.mapUpdate, run_underlying ht, MapKept.run_getObj_map hb, hc, hf, MapKept.run_setObj_map _ hb, Result.andThen]; rfl, ?_, es, c, _, _, hb, rfl⟩
    refine ⟨_, _, (MapKept.heap_set hb).1, MapKept.stamped_push h2 d, by simp; omega, ?_, fun k' v' => ?_⟩
    · intro x hx
      simp only [Array.toList_push, List.mem_append, List.mem_singleton] at hx
      rcases hx with hx | rfl
      · exact h4 x hx
      · exact ⟨k, rfl, hi⟩
    · by_cases e : k' = k
      · subst e
        rw [updF_self]
        constructor
        · intro e; cases e; exact ⟨⟨.int .i64 k', v, c⟩, by simp, rfl, rfl⟩
        · rintro ⟨x, hx, e1, e2⟩
          simp only [Array.toList_push, List.mem_append, List.mem_singleton] at hx
          rcases hx with hx | rfl
          · exact absurd e1 (d x hx)
          · rw [← e2]
      · rw [updF_ne _ _ e, h5]
        constructor
        · rintro ⟨x, hx, e1, e2⟩; exact ⟨x, by simp; left; simpa using hx, e1, e2⟩
        · rintro ⟨x, hx, e1, e2⟩
          simp only [Array.toList_push, List.mem_append, List.mem_singleton] at hx
          rcases hx with hx | rfl
          · exact ⟨x, hx, e1, e2⟩
          · simp at e1; exact absurd e1.symm e
  · have hf := MapKept.run_findKey (P := P) (w := w) hk b
    have hks : (Instr.keyThatStays (.int .i64 k) (.int .i64 k)).run P w = .ok (.int .i64 k) w := MapKept.run_keyThatStays (isKey_int k)
    refine ⟨_, by simp [Instr.mapUpdate, run_underlying ht, MapKept.run_getObj_map hb, hc, hf, d, f, hks, MapKept.run_setObj_map _ hb, Result.andThen]; rfl, ?_, es, c, _, _, hb, rfl⟩
    have hkey : ∀ e', es[j]? = some e' → ({ e' with key := .int .i64 k, val := v } : MapEntry).key = e'.key := fun e' he' => by rw [d] at he'; cases he'; exact f.symm
    have hmem : ∀ y, y ∈ (es.modify j fun e => { e with key := .int .i64 k, val := v }).toList ↔ ∃ i e, es[i]? = some e ∧ y = if i = j then { e with key := .int .i64 k, val := v } else e := by
      intro y
      rw [List.mem_iff_getElem?]
      constructor
      · rintro ⟨i, hi⟩
        rw [Array.getElem?_toList, Array.getElem?_modify] at hi
        split at hi
        · rename_i e
          obtain ⟨e0, h0, h1⟩ := Option.map_eq_some_iff.1 hi
          exact ⟨i, e0, h0, by rw [if_pos e.symm]; exact h1.symm⟩
        · rename_i e
          exact ⟨i, y, hi, by rw [if_neg (Ne.symm e)]⟩
      · rintro ⟨i, e, h0, h1⟩
        refine ⟨i, ?_⟩
        rw [Array.getElem?_toList, Array.getElem?_modify, h0]
        by_cases e2 : i = j
        · rw [if_pos e2.symm]; rw [if_pos e2] at h1; rw [h1]; rfl
        · rw [if_neg (Ne.symm e2)]; rw [if_neg e2] at h1; rw [h1]
    refine ⟨_, _, (MapKept.heap_set hb).1, MapKept.stamped_modify h2 _ _ (fun _ _ => rfl) (fun e' _ he' => hkey e' he'), by simp; omega, ?_, fun k' v' => ?_⟩
    · intro y hy
      obtain ⟨i, e, h0, h1⟩ := (hmem y).1 hy
      split at h1
      · subst h1; exact ⟨k, rfl, hi⟩
      · subst h1; exact h4 _ (Array.mem_toList_iff.2 (Array.mem_of_getElem? h0))
    · by_cases e : k' = k
      · subst e
        rw [updF_self]
        constructor
        · intro e; cases e; exact ⟨_, (hmem _).2 ⟨j, x, d, by rw [if_pos rfl]⟩, rfl, rfl⟩
        · rintro ⟨y, hy, e1, e2⟩
          obtain ⟨i, e, h0, h1⟩ := (hmem y).1 hy
          split at h1
          · subst h1; rw [← e2]
          · rename_i hne
            subst h1
            refine absurd ?_ hne
            have hx := entry_one h2 (Array.mem_toList_iff.2 (Array.mem_of_getElem? h0)) (Array.mem_toList_iff.2 (Array.mem_of_getElem? d)) (e1.trans f.symm)
            subst hx
            have hnd := h2.2.2
            have hlt := (Array.getElem?_eq_some_iff.1 h0).1
            refine (List.getElem?_inj (l := es.toList.map (·.key)) (by simpa using hlt) hnd).1 ?_
            simp [h0, d]
      · rw [updF_ne _ _ e, h5]
        constructor
        · rintro ⟨y, hy, e1, e2⟩
          obtain ⟨i, hi⟩ := List.mem_iff_getElem?.1 hy
          have hi' : es[i]? = some y := by simpa using hi
          have hne : i ≠ j := by
            rintro rfl
            rw [hi'] at d; cases d
            rw [f] at e1; simp at e1; exact e e1.symm
          exact ⟨y, (hmem y).2 ⟨i, y, hi', by rw [if_neg hne]⟩, e1, e2⟩
        · rintro ⟨y, hy, e1, e2⟩
          obtain ⟨i, e0, h0, h1⟩ := (hmem y).1 hy
          split at h1
          · subst h1; simp at e1; exact absurd e1.symm e
          · subst h1; exact ⟨_, Array.mem_toList_iff.2 (Array.mem_of_getElem? h0), e1, e2⟩
theorem IM.del (h : IM w m n F) (k : Int) (ty : TypeId) : ∃ w', (Builtin.delete_ #[t, kt] ty #[.map (some m), .int .i64 k]).run P w = .ok (.tuple #[]) w' ∧ IM w' m n (updF F k none) ∧ w.mapTurned w' m := by
  obtain ⟨es, c, hb, hf, h2, h3, h4, h5⟩ := h.find k
  have hc : ∀ q, (Instr.checkKey q 10000 kt (.int .i64 k)).run P w = .ok () w := fun q => MapKept.run_checkKey hk (by simp [MapKept.IsKey]) q 9999
  rcases hf with ⟨a, b, d⟩ | ⟨j, x, a, b, d, f⟩
  · have hf := MapKept.run_findKey (P := P) (w := w) hk b
    refine ⟨_, by simp [Builtin.delete_, run_underlying ht, MapKept.run_getObj_map hb, hc, hf, MapKept.run_setObj_map _ hb, Result.andThen]; rfl, ?_, es, c, _, _, hb, rfl⟩
    refine ⟨_, _, (MapKept.heap_set hb).1, h2, h3, h4, fun k' v' => ?_⟩
    by_cases e : k' = k
    · subst e
      rw [updF_self]
      constructor
      · intro e; cases e
      · rintro ⟨x, hx, e1, e2⟩; exact absurd e1 (d x hx)
    · rw [updF_ne _ _ e, h5]
  · have hf := MapKept.run_findKey (P := P) (w := w) hk b
    have hlt := (Array.getElem?_eq_some_iff.1 d).1
    refine ⟨_, by simp [Builtin.delete_, run_underlying ht, MapKept.run_getObj_map hb, hc, hf, MapKept.run_setObj_map _ hb, Result.andThen]; rfl, ?_, es, c, _, _, hb, rfl⟩
    have hse := MapKept.stamped_erase h2 j
    have ee : (es.eraseIdxIfInBounds j).toList = es.toList.eraseIdx j := by simp [Array.eraseIdxIfInBounds, hlt]
    have hsub : ∀ y ∈ (es.eraseIdxIfInBounds j).toList, y ∈ es.toList := fun y hy => by rw [ee] at hy; exact (List.eraseIdx_sublist _ _).subset hy
    refine ⟨_, _, (MapKept.heap_set hb).1, hse, ?_, fun y hy => h4 y (hsub y hy), fun k' v' => ?_⟩
    · have : (es.eraseIdxIfInBounds j).toList.length ≤ es.toList.length := by rw [ee]; exact List.length_eraseIdx_le _ _
      rw [Array.length_toList, Array.length_toList] at this; omega
    · have hgone : ∀ y ∈ (es.eraseIdxIfInBounds j).toList, y.key ≠ .int .i64 k := by
        intro y hy e1
        rw [ee, List.mem_eraseIdx_iff_getElem?] at hy
        obtain ⟨i, hne, hi⟩ := hy
        have hi' : es[i]? = some y := by simpa using hi
        have hx := entry_one h2 (Array.mem_toList_iff.2 (Array.mem_of_getElem? hi')) (Array.mem_toList_iff.2 (Array.mem_of_getElem? d)) (e1.trans f.symm)
        subst hx
        refine hne ((List.getElem?_inj (l := es.toList.map (·.key)) ?_ h2.2.2).1 ?_)
        · simpa using (Array.getElem?_eq_some_iff.1 hi').1
        · simp [hi', d]
      by_cases e : k' = k
      · subst e
        rw [updF_self]
        constructor
        · intro e; cases e
        · rintro ⟨y, hy, e1, e2⟩; exact absurd e1 (hgone y hy)
      · rw [updF_ne _ _ e, h5]
        constructor
        · rintro ⟨y, hy, e1, e2⟩
          refine ⟨y, ?_, e1, e2⟩
          obtain ⟨i, hi⟩ := List.mem_iff_getElem?.1 hy
          rw [ee, List.mem_eraseIdx_iff_getElem?]
          refine ⟨i, ?_, hi⟩
          rintro rfl
          have hi' : es[i]? = some y := by simpa using hi
          rw [hi'] at d; cases d
          rw [f] at e1; simp at e1; exact e e1.symm
        · rintro ⟨y, hy, e1, e2⟩; exact ⟨y, hsub y hy, e1, e2⟩
end

def valOf : Value → Int
  | .int _ a => a
  | _ => 0
theorem cell_lt {w : World} {p : Addr} {v : Value} (h : w.cell? p = some v) : p.block < w.heap.size := by
  by_cases e : p.block < w.heap.size
  · exact e
  · simp [World.cell?, e] at h
def Row8 (w : World) (p : Option Addr) (C : List Int) : Prop := (∀ x ∈ C, 0 ≤ x ∧ x ≤ 255) ∧ (C = [] ∨ ∃ b o, p = some ⟨b, o, none⟩ ∧ b < w.heap.size ∧ ∀ j x, C[j]? = some x → w.cell? ⟨b, o + j, none⟩ = some (.int .u8 x))
def RowB (w : World) (p : Option Addr) (C : List Bool) : Prop := (C = [] ∨ ∃ b o, p = some ⟨b, o, none⟩ ∧ b < w.heap.size ∧ ∀ j x, C[j]? = some x → w.cell? ⟨b, o + j, none⟩ = some (.bool x))
theorem cells5 : Tryd.prog.cellsOf 5 = 1 := by kernel_rfl
theorem cells4 : Tryd.prog.cellsOf 4 = 1 := by kernel_rfl
theorem wf_u16 {m : Int} (h : (Lit.int .u16 m).wf = true) : 0 ≤ m ∧ m ≤ 65535 := by
  simpa [Lit.wf, IntKind.min, IntKind.max, IntKind.signed, IntKind.bits] using h
theorem wf_u8 {m : Int} (h : (Lit.int .u8 m).wf = true) : 0 ≤ m ∧ m ≤ 255 := by
  simpa [Lit.wf, IntKind.min, IntKind.max, IntKind.signed, IntKind.bits] using h
theorem cell_spot {w : World} {a : Addr} {v : Value} (h : w.cell? a = some v) : a.spot = none := by
  unfold World.cell? at h
  split at h
  · split at h
    · cases h
    · rename_i hs; simpa using hs
  · cases h
theorem add_of {a : Addr} (h : a.spot = none) (n : Nat) : a.add n = ⟨a.block, a.off + n, none⟩ := by
  cases a with | mk b o s =>
  simp only at h
  subst h
  unfold Addr.add
  split
  · rename_i e; subst e; rfl
  · rfl
theorem rows_of {α : Type} {Q : Nat → α → Prop} : ∀ n : Nat, (∀ i, i < n → ∃ x, Q i x) → ∃ L : List α, L.length = n ∧ ∀ j x, L[j]? = some x → Q j x
  | 0, _ => ⟨[], rfl, by simp⟩
  | n + 1, h => by
    obtain ⟨L, hl, hL⟩ := rows_of n fun i hi => h i (by omega)
    obtain ⟨x, hx⟩ := h n (by omega)
    refine ⟨L ++ [x], by simp [hl], fun j y hy => ?_⟩
    by_cases hj : j < n
    · rw [List.getElem?_append_left (by omega)] at hy
      exact hL j y hy
    · have hj2 : j = n := by
        have := (List.getElem?_eq_some_iff.1 hy).1
        simp at this; omega
      subst hj2
      rw [List.getElem?_append_right (by omega), hl] at hy
      simp at hy
      subst hy
      exact hx
section
variable {H : Type} {enc : TypeId × Value → H} {w : World} {spare : Nat → Bool} {held : Bool}
theorem open_row8 {r : Reach} {b0 : Nat} {v : Value} {d : DataW H} {p : List MemPlace} (hv : Value.okWide Tryd.prog w r b0 65 v) (h : DataW.Trod enc Tryd.prog w 0 (fun _ => true) held 65 v d p) :
    ∃ (a : Option Addr) (C : List Int) (cap : Nat), v = .slice a C.length cap ∧ Row8 w a C := by
  obtain ⟨a, len, cap, rfl⟩ := okWide_slice Tryd.underlying65 hv
  obtain ⟨fuel, hf⟩ := h
  rcases open_ints Tryd.underlying65 Tryd.underlying5 cells5 hf with ⟨h0, _⟩ | ⟨a', len', cap', zs, h0, _, hlc, hm, hz, _, hcell, hwz⟩
  · simp [Value.cells] at h0
    obtain ⟨rfl, rfl, rfl⟩ := h0
    exact ⟨none, [], 0, rfl, by simp, .inl rfl⟩
  · simp [Value.cells] at h0
    obtain ⟨rfl, rfl, rfl⟩ := h0
    simp only [if_true] at hz
    have hlen : (zs.take len).length = len := by rw [List.length_take]; omega
    refine ⟨some a', zs.take len, cap, by rw [hlen], fun x hx => wf_u8 (hwz x (List.mem_of_mem_take hx)), ?_⟩
    by_cases h0 : len = 0
    · exact .inl (List.eq_nil_of_length_eq_zero (by omega))
    · have g0 := hcell 0 (by omega)
      have hsp : a'.spot = none := by have := cell_spot g0; simpa [Addr.add] using this
      refine .inr ⟨a'.block, a'.off, ?_, ?_, fun j x hx => ?_⟩
      · have : a' = ⟨a'.block, a'.off, none⟩ := by cases a'; simp at hsp; rw [hsp]
        rw [← this]
      · rw [add_of hsp] at g0
        exact cell_lt (p := ⟨a'.block, _, none⟩) g0
      · have hj := (List.getElem?_eq_some_iff.1 hx).1
        have g := hcell j (by omega)
        rw [add_of hsp] at g
        rw [List.getElem?_take, if_pos (by omega)] at hx
        rw [List.getD, hx] at g
        exact g
end
theorem idx8 {w : World} {p : Option Addr} {C : List Int} (h : Row8 w p C) {i : Nat} (hi : i < C.length) (hl : C.length ≤ 100000) : ∃ b o x, C[i]? = some x ∧ w.cell? ⟨b, o, none⟩ = some (.int .u8 x) ∧ (0 ≤ x ∧ x ≤ 255) ∧ b < w.heap.size ∧ ∀ c W, (Instr.indexAt 65 (.slice p C.length c) (.int .i64 i)).run Tryd.prog W = .ok (.pointer (some ⟨b, o, none⟩)) W := by
  rcases h.2 with e | ⟨b, o, rfl, hb, hc⟩
  · subst e; simp at hi
  · refine ⟨b, o + i, C[i], List.getElem?_eq_getElem hi, hc i _ (List.getElem?_eq_getElem hi), h.1 _ (List.getElem_mem _), hb, fun c W => ?_⟩
    have hi2 : (i : Int) < C.length := by omega
    simp [go_sem, hi]
/-- How much the slots ahead of m use. -/
def clsO : Th → Int
  | none => 0
  | some (_, bs) => clsM bs.length
def sumT (T : Nat → Th) : Nat → Int
  | 0 => 0
  | m + 1 => sumT T m + clsO (T m)
theorem clsO_nn (x : Th) : 0 ≤ clsO x := by
  unfold clsO
  split
  · omega
  · exact (clsM_bd _).1
theorem sumT_upd (T : Nat → Th) (k : Nat) (x : Th) : ∀ m, sumT (upd T k x) m = sumT T m + if k < m then clsO x - clsO (T k) else 0
  | 0 => by simp [sumT]
  | m + 1 => by
    rw [sumT, sumT, sumT_upd T k x m]
    by_cases e : k = m
    · subst e
      rw [upd_self, if_neg (by omega), if_pos (by omega)]
      omega
    · rw [upd_ne _ _ (fun h => e h.symm)]
      by_cases l : k < m
      · rw [if_pos l, if_pos (by omega)]; omega
      · rw [if_neg l, if_neg (by omega)]; omega
theorem sumT_nn (T : Nat → Th) : ∀ m, 0 ≤ sumT T m
  | 0 => by simp [sumT]
  | m + 1 => by rw [sumT]; have := sumT_nn T m; have := clsO_nn (T m); omega
theorem sumT_le (T : Nat → Th) (k : Nat) : ∀ m, k < m → clsO (T k) ≤ sumT T m
  | 0, h => by omega
  | m + 1, h => by
    rw [sumT]
    have h1 := clsO_nn (T m)
    have h2 := sumT_nn T m
    by_cases e : k = m
    · subst e; omega
    · have := sumT_le T k m (by omega); omega
theorem sumT_none (T : Nat → Th) : ∀ m, (∀ k, k < m → T k = none) → sumT T m = 0
  | 0, _ => rfl
  | m + 1, h => by rw [sumT, sumT_none T m (fun k hk => h k (by omega)), h m (by omega)]; rfl
/-- What is used is what the slots use. -/
def Us (T : Nat → Th) (used : Int) : Prop := ∃ m, (∀ s, m ≤ s → T s = none) ∧ sumT T m = used
theorem sumT_more (T : Nat → Th) : ∀ (j m : Nat), (∀ s, m ≤ s → T s = none) → sumT T (m + j) = sumT T m
  | 0, m, _ => rfl
  | j + 1, m, h => by rw [← Nat.add_assoc, sumT, sumT_more T j m h, h _ (by omega)]; simp [clsO]
theorem Us.upd {T : Nat → Th} {used : Int} (h : Us T used) (k : Nat) (x : Th) : Us (upd T k x) (used + clsO x - clsO (T k)) := by
  obtain ⟨m, h1, h2⟩ := h
  refine ⟨m + (k + 1), fun s hs => ?_, ?_⟩
  · rw [upd_ne _ _ (by omega)]; exact h1 s (by omega)
  · rw [sumT_upd, if_pos (by omega), sumT_more T _ _ h1, h2]; omega
theorem Us.le {T : Nat → Th} {used : Int} (h : Us T used) (k : Nat) : clsO (T k) ≤ used := by
  obtain ⟨m, h1, h2⟩ := h
  by_cases e : k < m
  · rw [← h2]; exact sumT_le T k m e
  · rw [h1 k (by omega), ← h2]; exact sumT_nn T m
theorem Us.empty {T : Nat → Th} {used : Int} (h : Us T used) (hn : ∀ k, T k = none) : used = 0 := by
  obtain ⟨m, h1, h2⟩ := h
  rw [← h2]; exact sumT_none T m fun k _ => hn k
theorem IM.fr {w w' : World} {B b m n : Nat} {F : Int → Option Value} (h : IM w m n F) (hF : FrF Yo B b w w') (hne : m ≠ b) : IM w' m n F := by
  obtain ⟨es, c, h1, h2⟩ := h
  exact ⟨es, c, hF.keep m _ hne h1 (by intro cs z e; cases e) (by intro cs z e; cases e), h2⟩
theorem row3_fr {w w' : World} {B C b n : Nat} {v : Value} {xs : List Value} (h : w.ownsRow C 3 1 v n xs) (hF : FrF Yo B b w w') (hb : ∀ cs z, w.heap[b]? ≠ some (.cells cs 3 z)) : w'.ownsRow C 3 1 v n xs := by
  refine ⟨h.1, ?_⟩
  rcases h.2 with e | ⟨g, cap, cur, e, h1, h2, h3⟩
  · exact .inl e
  · exact .inr ⟨g, cap, cur, e, h1, hF.keep g _ (by rintro rfl; exact hb _ _ h2) h2 (by intro cs z e; cases e) (by intro cs z e; cases e), h3⟩
theorem SlF.not3 {w : World} {B b : Nat} {room used : Int} {T : Nat → Th} {n : Nat} (h : SlF Yo w B b room used T n) : ∀ cs z, w.heap[b]? ≠ some (.cells cs 3 z) := by
  intro cs z e
  obtain ⟨v, xs, hb, _⟩ := h.rows
  rw [hb] at e
  cases e
theorem FrF.of {B b : Nat} {w w' : World} (h : Below w.heap.size w w') (hB : B ≤ w.heap.size) : FrF Yo B b w w' :=
  ⟨h.mono hB, fun k o _ ho _ _ => (h.block k (heap_lt ho)).trans ho, fun k _ hl => h.block k hl⟩
theorem row_shape {w : World} {B t sz n : Nat} {v : Value} {xs : List Value} (h : w.ownsRow B t sz v n xs) : ∃ p cap, v = .slice p n cap := by
  rcases h.2 with ⟨e, h⟩ | ⟨g, cap, cur, e, _⟩
  · subst h; exact ⟨_, _, e⟩
  · exact ⟨_, cap, e⟩
theorem idx3 {w : World} {B : Nat} {p : Option Addr} {K : List Nat} {c : Nat} (h : w.ownsRow B 3 1 (.slice p K.length c) K.length (intsV K)) {j : Nat} (hj : j < K.length) (hl : K.length ≤ 10000000) :
    ∃ g x, K[j]? = some x ∧ w.cell? ⟨g, j, none⟩ = some (.int .i64 x) ∧ ∀ W, (Instr.indexAt 111 (.slice p K.length c) (.int .i64 j)).run Tryd.prog W = .ok (.pointer (some ⟨g, j, none⟩)) W := by
  rcases h.2 with ⟨e, e2⟩ | ⟨g, cap, cur, e, h1, h2, h3⟩
  · omega
  · cases e
    have hx := List.getElem?_eq_getElem hj
    refine ⟨g, K[j], hx, ?_, fun W => ?_⟩
    · rw [h.cellAt _ (by omega), intsV, List.getElem?_map, hx]; rfl
    · have hi2 : (j : Int) < K.length := by omega
      simp [go_sem, hj]
theorem cls_facts {s : Nat} (h1 : 1 ≤ s) (h2 : s ≤ 128) : (s : Int) ≤ clsM s ∧ 0 < clsM s ∧ clsM s ≤ 128 ∧ (2 * (s : Int) ≤ clsM s → clsM s ≤ 8) := by
  unfold clsM
  repeat (first | omega | split)
theorem taken_mem {T : Nat → Th} {m k : Nat} : k ∈ takenL T m ↔ k < m ∧ (T k).isSome = true := by simp [takenL]
theorem taken_nd (T : Nat → Th) (m : Nat) : (takenL T m).Nodup := List.Pairwise.filter _ List.nodup_range
theorem zero3 (w : World) : (zeroValue 3).run Tryd.prog w = .ok (.int .i64 0) w := by kernel_rfl
theorem SlF.turned {w w' : World} {B b m : Nat} {room used : Int} {T : Nat → Th} {n : Nat} (h : SlF Yo w B b room used T n) (ht : w.mapTurned w' m) : SlF Yo w' B b room used T n := by
  obtain ⟨v, xs, q, hv, hx⟩ := h.rows
  have hk : ∀ (k : Nat) (cs : Array Value) (t : TypeId) (z : Nat × Nat), w.heap[k]? = some (.cells cs t z) → w'.heap[k]? = some (.cells cs t z) := fun k cs t z ho => by
    rw [ht.grown.block k (heap_lt ho) ?_]
    · exact ho
    · intro e
      simp only [Option.some.injEq] at e
      subst e
      obtain ⟨es, c, _, _, he, _⟩ := ht
      rw [ho] at he
      cases he
  refine ⟨h.bB, h.nb, h.rm, h.us, ⟨v, xs, hk _ _ _ _ q, ⟨hv.1, ?_⟩, hx⟩, h.out, fun s hh bs e => ?_, h.apart, h.off.go ht.grown.size (hk _ _ _ _ q) (h.offr q) h.off.2.2.1⟩
  · rcases hv.2 with e | ⟨g, cap, cur, e, a1, a2, a3⟩
    · exact .inl e
    · exact .inr ⟨g, cap, cur, e, a1, hk _ _ _ _ a2, a3⟩
  · obtain ⟨a1, a2, a3⟩ := h.th s hh bs e
    exact ⟨a1, hk _ _ _ _ a2, a3⟩
theorem Us.new : Us (fun _ => none) 0 := ⟨0, fun _ _ => rfl, rfl⟩
end Go.Proofs.YtooblonafnlfcaaDoor
