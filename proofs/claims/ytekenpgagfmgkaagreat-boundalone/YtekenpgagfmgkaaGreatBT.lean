/- Towards the statements of package bound (layer 5): the table of what codes do with bounds, as the program makes it, and what it has at each code. -/
import Derived.Test.YtekenpgagfmgkaaGreatSB
import Derived.Carry
import Derived.MapKept
namespace Go.Proofs.YtekenpgagfmgkaaGreat
open Go.ChangeShapes Go.WideShapes Go.ChangeAt Go.RowKit
set_option linter.unusedVariables false
set_option maxRecDepth 20000

def keyNe (k : Int) (e : MapEntry) : Bool := match e.key with | .int .u8 a => !(k == a) | _ => false

theorem find_none (k : Int) : ∀ (l : List MapEntry) (i : Nat), l.all (keyNe k) = true → Instr.findNow (.int .u8) (.int .u8 k) l i = some none
  | [], _, _ => rfl
  | e :: l, i, h => by
    simp only [List.all_cons, Bool.and_eq_true] at h
    obtain ⟨h1, h2⟩ := h
    obtain ⟨key, val, born⟩ := e
    unfold keyNe at h1
    split at h1
    · rename_i a hk
      simp only at hk
      subst hk
      simp only [Bool.not_eq_true'] at h1
      simp [Instr.findNow, Instr.sameNow, h1, find_none k l (i + 1) h2]
    · cases h1

theorem run_update {P : Program} {t k e : TypeId} (ht : P.underlying t = some (.map k e)) (hk : P.underlying k = some (.int .u8)) (W : World) (g n : Nat) (l : List MapEntry) (c : Int) (v : Value) (hg : g = W.heap.size) (hl : l.all (keyNe c) = true) :
    (Instr.mapUpdate t (.map (some g)) (.int .u8 c) v).run P (W.alloc (.map l.toArray n)) = .ok () (W.alloc (.map (l ++ [MapEntry.mk (.int .u8 c) v n]).toArray (n + 1))) := by
  subst hg
  have hb : (W.alloc (.map l.toArray n)).heap[W.heap.size]? = some (.map l.toArray n) := (MapKept.heap_alloc W _).1
  have hc : (Instr.checkKey false 10000 k (.int .u8 c)).run P (W.alloc (.map l.toArray n)) = .ok () (W.alloc (.map l.toArray n)) := MapKept.run_checkKey hk (by simp [MapKept.IsKey]) false 9999
  have hf := MapKept.run_findKey (w := W.alloc (.map l.toArray n)) hk (find_none c l 0 hl)
  have hs : ∀ o : Obj, ({ W.alloc (.map l.toArray n) with heap := (W.alloc (.map l.toArray n)).heap.setIfInBounds W.heap.size o } : World) = W.alloc o := fun o => by
    have e1 : (W.alloc (.map l.toArray n)).heap = W.heap.push (.map l.toArray n) := rfl
    have e2 : (W.heap.push (.map l.toArray n)).setIfInBounds W.heap.size o = W.heap.push o := by
      apply Array.ext_getElem?
      intro i
      by_cases hi : W.heap.size = i
      · subst hi; simp
      · rw [Array.getElem?_setIfInBounds_ne hi, Array.getElem?_push, Array.getElem?_push, if_neg (Ne.symm hi), if_neg (Ne.symm hi)]
    rw [e1, e2]; rfl
  simp [Instr.mapUpdate, run_underlying ht, MapKept.run_getObj_map hb, hc, hf, MapKept.run_setObj_map _ hb, Result.andThen]
  exact hs _

theorem find_at (k : Int) (v : Value) (n : Nat) : ∀ (l l' : List MapEntry) (i : Nat), l.all (keyNe k) = true → Instr.findNow (.int .u8) (.int .u8 k) (l ++ MapEntry.mk (.int .u8 k) v n :: l') i = some (some (i + l.length, v))
  | [], l', i, _ => by simp [Instr.findNow, Instr.sameNow]
  | e :: l, l', i, h => by
    simp only [List.all_cons, Bool.and_eq_true] at h
    obtain ⟨h1, h2⟩ := h
    obtain ⟨key, val, born⟩ := e
    unfold keyNe at h1
    split at h1
    · rename_i a hk
      simp only at hk
      subst hk
      simp only [Bool.not_eq_true'] at h1
      simp only [List.cons_append, Instr.findNow, Instr.sameNow, h1, if_true, find_at k v n l l' (i + 1) h2, List.length_cons]
      simp only [Option.some.injEq, Prod.mk.injEq, and_true]
      omega
    · cases h1

theorem run_look_yes {P : Program} {t k e : TypeId} (ht : P.underlying t = some (.map k e)) (hk : P.underlying k = some (.int .u8)) {w : World} {g n m : Nat} (l l' : List MapEntry) (c : Int) (v : Value) (hb : w.heap[g]? = some (.map (l ++ MapEntry.mk (.int .u8 c) v m :: l').toArray n)) (hl : l.all (keyNe c) = true) :
    (Instr.lookup t (.map (some g)) (.int .u8 c) true).run P w = .ok (.tuple #[v, .bool true]) w := by
  have hc : ∀ q, (Instr.checkKey q 10000 k (.int .u8 c)).run P w = .ok () w := fun q => MapKept.run_checkKey hk (by simp [MapKept.IsKey]) q 9999
  have hf := MapKept.run_findKey (P := P) (w := w) hk (find_at c v m l l' 0 hl)
  simp [Instr.lookup, run_underlying ht, MapKept.run_getObj_map hb, hc, hf, Result.andThen]

theorem run_look_no {P : Program} {t k e : TypeId} (ht : P.underlying t = some (.map k e)) (hk : P.underlying k = some (.int .u8)) {w : World} {g n : Nat} (l : List MapEntry) (c : Int) (z : Value) (hb : w.heap[g]? = some (.map l.toArray n)) (hz : (zeroValue e).run P w = .ok z w) (hl : l.all (keyNe c) = true) :
    (Instr.lookup t (.map (some g)) (.int .u8 c) true).run P w = .ok (.tuple #[z, .bool false]) w := by
  have hc : ∀ q, (Instr.checkKey q 10000 k (.int .u8 c)).run P w = .ok () w := fun q => MapKept.run_checkKey hk (by simp [MapKept.IsKey]) q 9999
  have hf := MapKept.run_findKey (P := P) (w := w) hk (find_none c l 0 hl)
  simp [Instr.lookup, run_underlying ht, MapKept.run_getObj_map hb, hc, hf, hz, Result.andThen]

theorem dup0 (W : World) (g : Nat) (v0 : Value) (hg : g = W.heap.size) : (Instr.mapUpdate 84 (.map (some g)) (.int .u8 0) v0).run Tryz.prog (W.alloc (.map #[] 0)) = .ok () (W.alloc (.map #[⟨.int .u8 0, v0, 0⟩] 1)) :=
  run_update Tryz.underlying84 Tryz.underlying5 W g 0 [] 0 v0 hg (by rfl)
theorem dup1 (W : World) (g : Nat) (v0 v1 : Value) (hg : g = W.heap.size) : (Instr.mapUpdate 84 (.map (some g)) (.int .u8 1) v1).run Tryz.prog (W.alloc (.map #[⟨.int .u8 0, v0, 0⟩] 1)) = .ok () (W.alloc (.map #[⟨.int .u8 0, v0, 0⟩, ⟨.int .u8 1, v1, 1⟩] 2)) :=
  run_update Tryz.underlying84 Tryz.underlying5 W g 1 [⟨.int .u8 0, v0, 0⟩] 1 v1 hg (by rfl)
theorem dup2 (W : World) (g : Nat) (v0 v1 v2 : Value) (hg : g = W.heap.size) : (Instr.mapUpdate 84 (.map (some g)) (.int .u8 2) v2).run Tryz.prog (W.alloc (.map #[⟨.int .u8 0, v0, 0⟩, ⟨.int .u8 1, v1, 1⟩] 2)) = .ok () (W.alloc (.map #[⟨.int .u8 0, v0, 0⟩, ⟨.int .u8 1, v1, 1⟩, ⟨.int .u8 2, v2, 2⟩] 3)) :=
  run_update Tryz.underlying84 Tryz.underlying5 W g 2 [⟨.int .u8 0, v0, 0⟩, ⟨.int .u8 1, v1, 1⟩] 2 v2 hg (by rfl)
theorem dup3 (W : World) (g : Nat) (v0 v1 v2 v3 : Value) (hg : g = W.heap.size) : (Instr.mapUpdate 84 (.map (some g)) (.int .u8 3) v3).run Tryz.prog (W.alloc (.map #[⟨.int .u8 0, v0, 0⟩, ⟨.int .u8 1, v1, 1⟩, ⟨.int .u8 2, v2, 2⟩] 3)) = .ok () (W.alloc (.map #[⟨.int .u8 0, v0, 0⟩, ⟨.int .u8 1, v1, 1⟩, ⟨.int .u8 2, v2, 2⟩, ⟨.int .u8 3, v3, 3⟩] 4)) :=
  run_update Tryz.underlying84 Tryz.underlying5 W g 3 [⟨.int .u8 0, v0, 0⟩, ⟨.int .u8 1, v1, 1⟩, ⟨.int .u8 2, v2, 2⟩] 3 v3 hg (by rfl)
theorem dup4 (W : World) (g : Nat) (v0 v1 v2 v3 v4 : Value) (hg : g = W.heap.size) : (Instr.mapUpdate 84 (.map (some g)) (.int .u8 9) v4).run Tryz.prog (W.alloc (.map #[⟨.int .u8 0, v0, 0⟩, ⟨.int .u8 1, v1, 1⟩, ⟨.int .u8 2, v2, 2⟩, ⟨.int .u8 3, v3, 3⟩] 4)) = .ok () (W.alloc (.map #[⟨.int .u8 0, v0, 0⟩, ⟨.int .u8 1, v1, 1⟩, ⟨.int .u8 2, v2, 2⟩, ⟨.int .u8 3, v3, 3⟩, ⟨.int .u8 9, v4, 4⟩] 5)) :=
  run_update Tryz.underlying84 Tryz.underlying5 W g 4 [⟨.int .u8 0, v0, 0⟩, ⟨.int .u8 1, v1, 1⟩, ⟨.int .u8 2, v2, 2⟩, ⟨.int .u8 3, v3, 3⟩] 9 v4 hg (by rfl)
theorem dup5 (W : World) (g : Nat) (v0 v1 v2 v3 v4 v5 : Value) (hg : g = W.heap.size) : (Instr.mapUpdate 84 (.map (some g)) (.int .u8 4) v5).run Tryz.prog (W.alloc (.map #[⟨.int .u8 0, v0, 0⟩, ⟨.int .u8 1, v1, 1⟩, ⟨.int .u8 2, v2, 2⟩, ⟨.int .u8 3, v3, 3⟩, ⟨.int .u8 9, v4, 4⟩] 5)) = .ok () (W.alloc (.map #[⟨.int .u8 0, v0, 0⟩, ⟨.int .u8 1, v1, 1⟩, ⟨.int .u8 2, v2, 2⟩, ⟨.int .u8 3, v3, 3⟩, ⟨.int .u8 9, v4, 4⟩, ⟨.int .u8 4, v5, 5⟩] 6)) :=
  run_update Tryz.underlying84 Tryz.underlying5 W g 5 [⟨.int .u8 0, v0, 0⟩, ⟨.int .u8 1, v1, 1⟩, ⟨.int .u8 2, v2, 2⟩, ⟨.int .u8 3, v3, 3⟩, ⟨.int .u8 9, v4, 4⟩] 4 v5 hg (by rfl)
theorem dup6 (W : World) (g : Nat) (v0 v1 v2 v3 v4 v5 v6 : Value) (hg : g = W.heap.size) : (Instr.mapUpdate 84 (.map (some g)) (.int .u8 5) v6).run Tryz.prog (W.alloc (.map #[⟨.int .u8 0, v0, 0⟩, ⟨.int .u8 1, v1, 1⟩, ⟨.int .u8 2, v2, 2⟩, ⟨.int .u8 3, v3, 3⟩, ⟨.int .u8 9, v4, 4⟩, ⟨.int .u8 4, v5, 5⟩] 6)) = .ok () (W.alloc (.map #[⟨.int .u8 0, v0, 0⟩, ⟨.int .u8 1, v1, 1⟩, ⟨.int .u8 2, v2, 2⟩, ⟨.int .u8 3, v3, 3⟩, ⟨.int .u8 9, v4, 4⟩, ⟨.int .u8 4, v5, 5⟩, ⟨.int .u8 5, v6, 6⟩] 7)) :=
  run_update Tryz.underlying84 Tryz.underlying5 W g 6 [⟨.int .u8 0, v0, 0⟩, ⟨.int .u8 1, v1, 1⟩, ⟨.int .u8 2, v2, 2⟩, ⟨.int .u8 3, v3, 3⟩, ⟨.int .u8 9, v4, 4⟩, ⟨.int .u8 4, v5, 5⟩] 5 v6 hg (by rfl)
theorem dup7 (W : World) (g : Nat) (v0 v1 v2 v3 v4 v5 v6 v7 : Value) (hg : g = W.heap.size) : (Instr.mapUpdate 84 (.map (some g)) (.int .u8 10) v7).run Tryz.prog (W.alloc (.map #[⟨.int .u8 0, v0, 0⟩, ⟨.int .u8 1, v1, 1⟩, ⟨.int .u8 2, v2, 2⟩, ⟨.int .u8 3, v3, 3⟩, ⟨.int .u8 9, v4, 4⟩, ⟨.int .u8 4, v5, 5⟩, ⟨.int .u8 5, v6, 6⟩] 7)) = .ok () (W.alloc (.map #[⟨.int .u8 0, v0, 0⟩, ⟨.int .u8 1, v1, 1⟩, ⟨.int .u8 2, v2, 2⟩, ⟨.int .u8 3, v3, 3⟩, ⟨.int .u8 9, v4, 4⟩, ⟨.int .u8 4, v5, 5⟩, ⟨.int .u8 5, v6, 6⟩, ⟨.int .u8 10, v7, 7⟩] 8)) :=
  run_update Tryz.underlying84 Tryz.underlying5 W g 7 [⟨.int .u8 0, v0, 0⟩, ⟨.int .u8 1, v1, 1⟩, ⟨.int .u8 2, v2, 2⟩, ⟨.int .u8 3, v3, 3⟩, ⟨.int .u8 9, v4, 4⟩, ⟨.int .u8 4, v5, 5⟩, ⟨.int .u8 5, v6, 6⟩] 10 v7 hg (by rfl)
theorem dup8 (W : World) (g : Nat) (v0 v1 v2 v3 v4 v5 v6 v7 v8 : Value) (hg : g = W.heap.size) : (Instr.mapUpdate 84 (.map (some g)) (.int .u8 6) v8).run Tryz.prog (W.alloc (.map #[⟨.int .u8 0, v0, 0⟩, ⟨.int .u8 1, v1, 1⟩, ⟨.int .u8 2, v2, 2⟩, ⟨.int .u8 3, v3, 3⟩, ⟨.int .u8 9, v4, 4⟩, ⟨.int .u8 4, v5, 5⟩, ⟨.int .u8 5, v6, 6⟩, ⟨.int .u8 10, v7, 7⟩] 8)) = .ok () (W.alloc (.map #[⟨.int .u8 0, v0, 0⟩, ⟨.int .u8 1, v1, 1⟩, ⟨.int .u8 2, v2, 2⟩, ⟨.int .u8 3, v3, 3⟩, ⟨.int .u8 9, v4, 4⟩, ⟨.int .u8 4, v5, 5⟩, ⟨.int .u8 5, v6, 6⟩, ⟨.int .u8 10, v7, 7⟩, ⟨.int .u8 6, v8, 8⟩] 9)) :=
  run_update Tryz.underlying84 Tryz.underlying5 W g 8 [⟨.int .u8 0, v0, 0⟩, ⟨.int .u8 1, v1, 1⟩, ⟨.int .u8 2, v2, 2⟩, ⟨.int .u8 3, v3, 3⟩, ⟨.int .u8 9, v4, 4⟩, ⟨.int .u8 4, v5, 5⟩, ⟨.int .u8 5, v6, 6⟩, ⟨.int .u8 10, v7, 7⟩] 6 v8 hg (by rfl)
theorem dup9 (W : World) (g : Nat) (v0 v1 v2 v3 v4 v5 v6 v7 v8 v9 : Value) (hg : g = W.heap.size) : (Instr.mapUpdate 84 (.map (some g)) (.int .u8 7) v9).run Tryz.prog (W.alloc (.map #[⟨.int .u8 0, v0, 0⟩, ⟨.int .u8 1, v1, 1⟩, ⟨.int .u8 2, v2, 2⟩, ⟨.int .u8 3, v3, 3⟩, ⟨.int .u8 9, v4, 4⟩, ⟨.int .u8 4, v5, 5⟩, ⟨.int .u8 5, v6, 6⟩, ⟨.int .u8 10, v7, 7⟩, ⟨.int .u8 6, v8, 8⟩] 9)) = .ok () (W.alloc (.map #[⟨.int .u8 0, v0, 0⟩, ⟨.int .u8 1, v1, 1⟩, ⟨.int .u8 2, v2, 2⟩, ⟨.int .u8 3, v3, 3⟩, ⟨.int .u8 9, v4, 4⟩, ⟨.int .u8 4, v5, 5⟩, ⟨.int .u8 5, v6, 6⟩, ⟨.int .u8 10, v7, 7⟩, ⟨.int .u8 6, v8, 8⟩, ⟨.int .u8 7, v9, 9⟩] 10)) :=
  run_update Tryz.underlying84 Tryz.underlying5 W g 9 [⟨.int .u8 0, v0, 0⟩, ⟨.int .u8 1, v1, 1⟩, ⟨.int .u8 2, v2, 2⟩, ⟨.int .u8 3, v3, 3⟩, ⟨.int .u8 9, v4, 4⟩, ⟨.int .u8 4, v5, 5⟩, ⟨.int .u8 5, v6, 6⟩, ⟨.int .u8 10, v7, 7⟩, ⟨.int .u8 6, v8, 8⟩] 7 v9 hg (by rfl)
theorem dup10 (W : World) (g : Nat) (v0 v1 v2 v3 v4 v5 v6 v7 v8 v9 v10 : Value) (hg : g = W.heap.size) : (Instr.mapUpdate 84 (.map (some g)) (.int .u8 12) v10).run Tryz.prog (W.alloc (.map #[⟨.int .u8 0, v0, 0⟩, ⟨.int .u8 1, v1, 1⟩, ⟨.int .u8 2, v2, 2⟩, ⟨.int .u8 3, v3, 3⟩, ⟨.int .u8 9, v4, 4⟩, ⟨.int .u8 4, v5, 5⟩, ⟨.int .u8 5, v6, 6⟩, ⟨.int .u8 10, v7, 7⟩, ⟨.int .u8 6, v8, 8⟩, ⟨.int .u8 7, v9, 9⟩] 10)) = .ok () (W.alloc (.map #[⟨.int .u8 0, v0, 0⟩, ⟨.int .u8 1, v1, 1⟩, ⟨.int .u8 2, v2, 2⟩, ⟨.int .u8 3, v3, 3⟩, ⟨.int .u8 9, v4, 4⟩, ⟨.int .u8 4, v5, 5⟩, ⟨.int .u8 5, v6, 6⟩, ⟨.int .u8 10, v7, 7⟩, ⟨.int .u8 6, v8, 8⟩, ⟨.int .u8 7, v9, 9⟩, ⟨.int .u8 12, v10, 10⟩] 11)) :=
  run_update Tryz.underlying84 Tryz.underlying5 W g 10 [⟨.int .u8 0, v0, 0⟩, ⟨.int .u8 1, v1, 1⟩, ⟨.int .u8 2, v2, 2⟩, ⟨.int .u8 3, v3, 3⟩, ⟨.int .u8 9, v4, 4⟩, ⟨.int .u8 4, v5, 5⟩, ⟨.int .u8 5, v6, 6⟩, ⟨.int .u8 10, v7, 7⟩, ⟨.int .u8 6, v8, 8⟩, ⟨.int .u8 7, v9, 9⟩] 12 v10 hg (by rfl)
theorem dup11 (W : World) (g : Nat) (v0 v1 v2 v3 v4 v5 v6 v7 v8 v9 v10 v11 : Value) (hg : g = W.heap.size) : (Instr.mapUpdate 84 (.map (some g)) (.int .u8 8) v11).run Tryz.prog (W.alloc (.map #[⟨.int .u8 0, v0, 0⟩, ⟨.int .u8 1, v1, 1⟩, ⟨.int .u8 2, v2, 2⟩, ⟨.int .u8 3, v3, 3⟩, ⟨.int .u8 9, v4, 4⟩, ⟨.int .u8 4, v5, 5⟩, ⟨.int .u8 5, v6, 6⟩, ⟨.int .u8 10, v7, 7⟩, ⟨.int .u8 6, v8, 8⟩, ⟨.int .u8 7, v9, 9⟩, ⟨.int .u8 12, v10, 10⟩] 11)) = .ok () (W.alloc (.map #[⟨.int .u8 0, v0, 0⟩, ⟨.int .u8 1, v1, 1⟩, ⟨.int .u8 2, v2, 2⟩, ⟨.int .u8 3, v3, 3⟩, ⟨.int .u8 9, v4, 4⟩, ⟨.int .u8 4, v5, 5⟩, ⟨.int .u8 5, v6, 6⟩, ⟨.int .u8 10, v7, 7⟩, ⟨.int .u8 6, v8, 8⟩, ⟨.int .u8 7, v9, 9⟩, ⟨.int .u8 12, v10, 10⟩, ⟨.int .u8 8, v11, 11⟩] 12)) :=
  run_update Tryz.underlying84 Tryz.underlying5 W g 11 [⟨.int .u8 0, v0, 0⟩, ⟨.int .u8 1, v1, 1⟩, ⟨.int .u8 2, v2, 2⟩, ⟨.int .u8 3, v3, 3⟩, ⟨.int .u8 9, v4, 4⟩, ⟨.int .u8 4, v5, 5⟩, ⟨.int .u8 5, v6, 6⟩, ⟨.int .u8 10, v7, 7⟩, ⟨.int .u8 6, v8, 8⟩, ⟨.int .u8 7, v9, 9⟩, ⟨.int .u8 12, v10, 10⟩] 8 v11 hg (by rfl)
theorem dup12 (W : World) (g : Nat) (v0 v1 v2 v3 v4 v5 v6 v7 v8 v9 v10 v11 v12 : Value) (hg : g = W.heap.size) : (Instr.mapUpdate 84 (.map (some g)) (.int .u8 11) v12).run Tryz.prog (W.alloc (.map #[⟨.int .u8 0, v0, 0⟩, ⟨.int .u8 1, v1, 1⟩, ⟨.int .u8 2, v2, 2⟩, ⟨.int .u8 3, v3, 3⟩, ⟨.int .u8 9, v4, 4⟩, ⟨.int .u8 4, v5, 5⟩, ⟨.int .u8 5, v6, 6⟩, ⟨.int .u8 10, v7, 7⟩, ⟨.int .u8 6, v8, 8⟩, ⟨.int .u8 7, v9, 9⟩, ⟨.int .u8 12, v10, 10⟩, ⟨.int .u8 8, v11, 11⟩] 12)) = .ok () (W.alloc (.map #[⟨.int .u8 0, v0, 0⟩, ⟨.int .u8 1, v1, 1⟩, ⟨.int .u8 2, v2, 2⟩, ⟨.int .u8 3, v3, 3⟩, ⟨.int .u8 9, v4, 4⟩, ⟨.int .u8 4, v5, 5⟩, ⟨.int .u8 5, v6, 6⟩, ⟨.int .u8 10, v7, 7⟩, ⟨.int .u8 6, v8, 8⟩, ⟨.int .u8 7, v9, 9⟩, ⟨.int .u8 12, v10, 10⟩, ⟨.int .u8 8, v11, 11⟩, ⟨.int .u8 11, v12, 12⟩] 13)) :=
  run_update Tryz.underlying84 Tryz.underlying5 W g 12 [⟨.int .u8 0, v0, 0⟩, ⟨.int .u8 1, v1, 1⟩, ⟨.int .u8 2, v2, 2⟩, ⟨.int .u8 3, v3, 3⟩, ⟨.int .u8 9, v4, 4⟩, ⟨.int .u8 4, v5, 5⟩, ⟨.int .u8 5, v6, 6⟩, ⟨.int .u8 10, v7, 7⟩, ⟨.int .u8 6, v8, 8⟩, ⟨.int .u8 7, v9, 9⟩, ⟨.int .u8 12, v10, 10⟩, ⟨.int .u8 8, v11, 11⟩] 11 v12 hg (by rfl)
/-- The table that deeds makes. -/
def deedsT : List MapEntry := [⟨.int .u8 0, .func (.func 121) #[] #[], 0⟩, ⟨.int .u8 1, .func (.func 122) #[] #[], 1⟩, ⟨.int .u8 2, .func (.func 123) #[] #[], 2⟩, ⟨.int .u8 3, .func (.func 124) #[] #[], 3⟩, ⟨.int .u8 9, .func (.func 127) #[] #[], 4⟩, ⟨.int .u8 4, .func (.func 129) #[] #[], 5⟩, ⟨.int .u8 5, .func (.func 130) #[] #[], 6⟩, ⟨.int .u8 10, .func (.func 131) #[] #[], 7⟩, ⟨.int .u8 6, .func (.func 132) #[] #[], 8⟩, ⟨.int .u8 7, .func (.func 133) #[] #[], 9⟩, ⟨.int .u8 12, .func (.func 134) #[] #[], 10⟩, ⟨.int .u8 8, .func (.func 135) #[] #[], 11⟩, ⟨.int .u8 11, .func (.func 136) #[] #[], 12⟩]
set_option maxHeartbeats 1000000 in
theorem deeds_any (w : World) : Calls Tryz.prog 64 #[] w fun e w' => e = .returned (.map (some w.heap.size)) ∧ w' = w.alloc (.map deedsT.toArray 13) := by
  have hmm := @run_makeMap Tryz.prog
  have h0 := dup0
  have h1 := dup1
  have h2 := dup2
  have h3 := dup3
  have h4 := dup4
  have h5 := dup5
  have h6 := dup6
  have h7 := dup7
  have h8 := dup8
  have h9 := dup9
  have h10 := dup10
  have h11 := dup11
  have h12 := dup12
  go_enter Tryz.func64, Tryz.ntmps64
  go_wp2
  go_ret
  exact ⟨rfl, rfl⟩
theorem deeds_gr (w : World) : Calls Tryz.prog 64 #[] w fun e w' => ∃ g, e = .returned (.map (some g)) ∧ w'.heap[g]? = some (.map deedsT.toArray 13) ∧ Gr w w' := by
  refine (deeds_any w).mono ?_
  rintro e w' ⟨rfl, hw⟩
  rw [hw]
  exact ⟨_, rfl, (MapKept.heap_alloc w _).1, by go_grown, Grown.allocMap (by go_grown) _ _⟩
theorem look0 (w : World) (g : Nat) (hb : w.heap[g]? = some (.map deedsT.toArray 13)) : (Instr.lookup 84 (.map (some g)) (.int .u8 0) true).run Tryz.prog w = .ok (.tuple #[.func (.func 121) #[] #[], .bool true]) w :=
  run_look_yes Tryz.underlying84 Tryz.underlying5 (deedsT.take 0) (deedsT.drop 1) 0 _ hb (by rfl)
theorem look1 (w : World) (g : Nat) (hb : w.heap[g]? = some (.map deedsT.toArray 13)) : (Instr.lookup 84 (.map (some g)) (.int .u8 1) true).run Tryz.prog w = .ok (.tuple #[.func (.func 122) #[] #[], .bool true]) w :=
  run_look_yes Tryz.underlying84 Tryz.underlying5 (deedsT.take 1) (deedsT.drop 2) 1 _ hb (by rfl)
theorem look2 (w : World) (g : Nat) (hb : w.heap[g]? = some (.map deedsT.toArray 13)) : (Instr.lookup 84 (.map (some g)) (.int .u8 2) true).run Tryz.prog w = .ok (.tuple #[.func (.func 123) #[] #[], .bool true]) w :=
  run_look_yes Tryz.underlying84 Tryz.underlying5 (deedsT.take 2) (deedsT.drop 3) 2 _ hb (by rfl)
theorem look3 (w : World) (g : Nat) (hb : w.heap[g]? = some (.map deedsT.toArray 13)) : (Instr.lookup 84 (.map (some g)) (.int .u8 3) true).run Tryz.prog w = .ok (.tuple #[.func (.func 124) #[] #[], .bool true]) w :=
  run_look_yes Tryz.underlying84 Tryz.underlying5 (deedsT.take 3) (deedsT.drop 4) 3 _ hb (by rfl)
theorem look9 (w : World) (g : Nat) (hb : w.heap[g]? = some (.map deedsT.toArray 13)) : (Instr.lookup 84 (.map (some g)) (.int .u8 9) true).run Tryz.prog w = .ok (.tuple #[.func (.func 127) #[] #[], .bool true]) w :=
  run_look_yes Tryz.underlying84 Tryz.underlying5 (deedsT.take 4) (deedsT.drop 5) 9 _ hb (by rfl)
theorem look4 (w : World) (g : Nat) (hb : w.heap[g]? = some (.map deedsT.toArray 13)) : (Instr.lookup 84 (.map (some g)) (.int .u8 4) true).run Tryz.prog w = .ok (.tuple #[.func (.func 129) #[] #[], .bool true]) w :=
  run_look_yes Tryz.underlying84 Tryz.underlying5 (deedsT.take 5) (deedsT.drop 6) 4 _ hb (by rfl)
theorem look5 (w : World) (g : Nat) (hb : w.heap[g]? = some (.map deedsT.toArray 13)) : (Instr.lookup 84 (.map (some g)) (.int .u8 5) true).run Tryz.prog w = .ok (.tuple #[.func (.func 130) #[] #[], .bool true]) w :=
  run_look_yes Tryz.underlying84 Tryz.underlying5 (deedsT.take 6) (deedsT.drop 7) 5 _ hb (by rfl)
theorem look10 (w : World) (g : Nat) (hb : w.heap[g]? = some (.map deedsT.toArray 13)) : (Instr.lookup 84 (.map (some g)) (.int .u8 10) true).run Tryz.prog w = .ok (.tuple #[.func (.func 131) #[] #[], .bool true]) w :=
  run_look_yes Tryz.underlying84 Tryz.underlying5 (deedsT.take 7) (deedsT.drop 8) 10 _ hb (by rfl)
theorem look6 (w : World) (g : Nat) (hb : w.heap[g]? = some (.map deedsT.toArray 13)) : (Instr.lookup 84 (.map (some g)) (.int .u8 6) true).run Tryz.prog w = .ok (.tuple #[.func (.func 132) #[] #[], .bool true]) w :=
  run_look_yes Tryz.underlying84 Tryz.underlying5 (deedsT.take 8) (deedsT.drop 9) 6 _ hb (by rfl)
theorem look7 (w : World) (g : Nat) (hb : w.heap[g]? = some (.map deedsT.toArray 13)) : (Instr.lookup 84 (.map (some g)) (.int .u8 7) true).run Tryz.prog w = .ok (.tuple #[.func (.func 133) #[] #[], .bool true]) w :=
  run_look_yes Tryz.underlying84 Tryz.underlying5 (deedsT.take 9) (deedsT.drop 10) 7 _ hb (by rfl)
theorem look12 (w : World) (g : Nat) (hb : w.heap[g]? = some (.map deedsT.toArray 13)) : (Instr.lookup 84 (.map (some g)) (.int .u8 12) true).run Tryz.prog w = .ok (.tuple #[.func (.func 134) #[] #[], .bool true]) w :=
  run_look_yes Tryz.underlying84 Tryz.underlying5 (deedsT.take 10) (deedsT.drop 11) 12 _ hb (by rfl)
theorem look8 (w : World) (g : Nat) (hb : w.heap[g]? = some (.map deedsT.toArray 13)) : (Instr.lookup 84 (.map (some g)) (.int .u8 8) true).run Tryz.prog w = .ok (.tuple #[.func (.func 135) #[] #[], .bool true]) w :=
  run_look_yes Tryz.underlying84 Tryz.underlying5 (deedsT.take 11) (deedsT.drop 12) 8 _ hb (by rfl)
theorem look11 (w : World) (g : Nat) (hb : w.heap[g]? = some (.map deedsT.toArray 13)) : (Instr.lookup 84 (.map (some g)) (.int .u8 11) true).run Tryz.prog w = .ok (.tuple #[.func (.func 136) #[] #[], .bool true]) w :=
  run_look_yes Tryz.underlying84 Tryz.underlying5 (deedsT.take 12) (deedsT.drop 13) 11 _ hb (by rfl)
theorem look_no (w : World) (g : Nat) (hb : w.heap[g]? = some (.map deedsT.toArray 13)) (c : Int) (hc : c ≠ 0 ∧ c ≠ 1 ∧ c ≠ 2 ∧ c ≠ 3 ∧ c ≠ 9 ∧ c ≠ 4 ∧ c ≠ 5 ∧ c ≠ 10 ∧ c ≠ 6 ∧ c ≠ 7 ∧ c ≠ 12 ∧ c ≠ 8 ∧ c ≠ 11) : (Instr.lookup 84 (.map (some g)) (.int .u8 c) true).run Tryz.prog w = .ok (.tuple #[.nilFunc, .bool false]) w :=
  run_look_no Tryz.underlying84 Tryz.underlying5 _ c .nilFunc hb (by rfl) (by simp [deedsT, keyNe, hc])
end Go.Proofs.YtekenpgagfmgkaaGreat
