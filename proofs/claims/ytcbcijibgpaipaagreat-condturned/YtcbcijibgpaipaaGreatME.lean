/- Towards the statements of package alu (layer 2): the tables of closures that deeds and questions make, what they have at each code; contracts of sizeOf, deeds and questions, for both sizes. Towards the statements of package alu (layer 2): what each closure of the table deeds reckons, for every two numbers; contracts of the thirteen. Towards the statements of package alu (layer 2): what each closure of the table questions answers, for every two numbers; contracts of the twelve, of above and of sign. Towards the statements of package alu (layer 2): contracts of Does and Asks of the program, for every code and every two numbers. Towards the statements of package alu (layer 2): contracts of the document's Does and Asks, for every code and every two numbers: they answer as the program's. Towards the statements of package alu (layer 2): contracts of Turned and Other, of the program and of the document, for every code; some answers that the document fixes. -/
import Derived.Test.YtcbcijibgpaipaaGreatMD
import Derived.Carry
import Derived.MapKept
import Derived.Laws.EntriesVeiled
import Derived.Laws.ShiftsVarLaws
import Derived.Laws.ShiftsVar
section
namespace Go.Proofs.YtcbcijibgpaipaaGreat.Wd
open Go.ChangeShapes Go.WideShapes Go.ChangeAt Go.RowKit
set_option linter.unusedVariables false
set_option maxRecDepth 20000

def keyNe (k : Int) (e : MapEntry) : Bool := match e.key with | .int .u8 a => !(k == a) | _ => false

theorem find_none (k : Int) : ∀ (l : List MapEntry) (i : Nat), l.all (keyNe k) = true → Instr.findNow (.int .u8) (.int .u8 k) l i = some none
  | [], _, _ => rfl
  | e :: l, i, h => by
    simp only [List.all_cons, Bool.and_eq_true] at h
    obtain ⟨h1, h2⟩ := h
    obtain ⟨key, val, born⟩ := e
    unfold keyNe at h1
    split at h1
    · rename_i a hk
      simp only at hk
      subst hk
      simp only [Bool.not_eq_true'] at h1
      simp [Instr.findNow, Instr.sameNow, h1, find_none k l (i + 1) h2]
    · cases h1

theorem run_update {P : Program} {t k e : TypeId} (ht : P.underlying t = some (.map k e)) (hk : P.underlying k = some (.int .u8)) (W : World) (g n : Nat) (l : List MapEntry) (c : Int) (v : Value) (hg : g = W.heap.size) (hl : l.all (keyNe c) = true) :
    (Instr.mapUpdate t (.map (some g)) (.int .u8 c) v).run P (W.alloc (.map l.toArray n)) = .ok () (W.alloc (.map (l ++ [MapEntry.mk (.int .u8 c) v n]).toArray (n + 1))) := by
  subst hg
  have hb : (W.alloc (.map l.toArray n)).heap[W.heap.size]? = some (.map l.toArray n) := (MapKept.heap_alloc W _).1
  have hc : (Instr.checkKey false 10000 k (.int .u8 c)).run P (W.alloc (.map l.toArray n)) = .ok () (W.alloc (.map l.toArray n)) := MapKept.run_checkKey hk (by simp [MapKept.IsKey]) false 9999
  have hf := MapKept.run_findKey (w := W.alloc (.map l.toArray n)) hk (find_none c l 0 hl)
  have hs : ∀ o : Obj, ({ W.alloc (.map l.toArray n) with heap := (W.alloc (.map l.toArray n)).heap.setIfInBounds W.heap.size o } : World) = W.alloc o := fun o => by
    have e1 : (W.alloc (.map l.toArray n)).heap = W.heap.push (.map l.toArray n) := rfl
    have e2 : (W.heap.push (.map l.toArray n)).setIfInBounds W.heap.size o = W.heap.push o := by
      apply Array.ext_getElem?
      intro i
      by_cases hi : W.heap.size = i
      · subst hi; simp
      · rw [Array.getElem?_setIfInBounds_ne hi, Array.getElem?_push, Array.getElem?_push, if_neg (Ne.symm hi), if_neg (Ne.symm hi)]
    rw [e1, e2]; rfl
  simp [Instr.mapUpdate, run_underlying ht, MapKept.run_getObj_map hb, hc, hf, MapKept.run_setObj_map _ hb, Result.andThen]
  exact hs _

theorem find_at (k : Int) (v : Value) (n : Nat) : ∀ (l l' : List MapEntry) (i : Nat), l.all (keyNe k) = true → Instr.findNow (.int .u8) (.int .u8 k) (l ++ MapEntry.mk (.int .u8 k) v n :: l') i = some (some (i + l.length, v))
  | [], l', i, _ => by simp [Instr.findNow, Instr.sameNow]
  | e :: l, l', i, h => by
    simp only [List.all_cons, Bool.and_eq_true] at h
    obtain ⟨h1, h2⟩ := h
    obtain ⟨key, val, born⟩ := e
    unfold keyNe at h1
    split at h1
    · rename_i a hk
      simp only at hk
      subst hk
      simp only [Bool.not_eq_true'] at h1
      simp only [List.cons_append, Instr.findNow, Instr.sameNow, h1, if_true, find_at k v n l l' (i + 1) h2, List.length_cons]
      simp only [Option.some.injEq, Prod.mk.injEq, and_true]
      omega
    · cases h1

theorem run_look_yes {P : Program} {t k e : TypeId} (ht : P.underlying t = some (.map k e)) (hk : P.underlying k = some (.int .u8)) {w : World} {g n m : Nat} (l l' : List MapEntry) (c : Int) (v : Value) (hb : w.heap[g]? = some (.map (l ++ MapEntry.mk (.int .u8 c) v m :: l').toArray n)) (hl : l.all (keyNe c) = true) :
    (Instr.lookup t (.map (some g)) (.int .u8 c) true).run P w = .ok (.tuple #[v, .bool true]) w := by
  have hc : ∀ q, (Instr.checkKey q 10000 k (.int .u8 c)).run P w = .ok () w := fun q => MapKept.run_checkKey hk (by simp [MapKept.IsKey]) q 9999
  have hf := MapKept.run_findKey (P := P) (w := w) hk (find_at c v m l l' 0 hl)
  simp [Instr.lookup, run_underlying ht, MapKept.run_getObj_map hb, hc, hf, Result.andThen]

theorem run_look_no {P : Program} {t k e : TypeId} (ht : P.underlying t = some (.map k e)) (hk : P.underlying k = some (.int .u8)) {w : World} {g n : Nat} (l : List MapEntry) (c : Int) (z : Value) (hb : w.heap[g]? = some (.map l.toArray n)) (hz : (zeroValue e).run P w = .ok z w) (hl : l.all (keyNe c) = true) :
    (Instr.lookup t (.map (some g)) (.int .u8 c) true).run P w = .ok (.tuple #[z, .bool false]) w := by
  have hc : ∀ q, (Instr.checkKey q 10000 k (.int .u8 c)).run P w = .ok () w := fun q => MapKept.run_checkKey hk (by simp [MapKept.IsKey]) q 9999
  have hf := MapKept.run_findKey (P := P) (w := w) hk (find_none c l 0 hl)
  simp [Instr.lookup, run_underlying ht, MapKept.run_getObj_map hb, hc, hf, hz, Result.andThen]

abbrev fv (k : Nat) (cap : List Nat) : Value := .func (.func k) #[] (cap.map fun p => .pointer (some ⟨p, 0, none⟩)).toArray

def sz (wd : Bool) : Int := if wd then 8 else 4

theorem sizeOf_any (wd : Bool) (w : World) : Calls Tryz.prog 88 #[.bool wd] w fun e w' => e = .returned (.int .i64 (sz wd)) ∧ w' = w := by
  cases wd
  all_goals
    go_enter Tryz.func88, Tryz.ntmps88
    go_wp2
    go_ret
    exact ⟨rfl, rfl⟩

theorem qup0 (W : World) (g : Nat) (v0 : Value) (hg : g = W.heap.size) : (Instr.mapUpdate 112 (.map (some g)) (.int .u8 0) v0).run Tryz.prog (W.alloc (.map #[] 0)) = .ok () (W.alloc (.map #[⟨.int .u8 0, v0, 0⟩] 1)) :=
  run_update Tryz.underlying112 Tryz.underlying5 W g 0 [] 0 v0 hg (by rfl)
theorem qup1 (W : World) (g : Nat) (v0 v1 : Value) (hg : g = W.heap.size) : (Instr.mapUpdate 112 (.map (some g)) (.int .u8 1) v1).run Tryz.prog (W.alloc (.map #[⟨.int .u8 0, v0, 0⟩] 1)) = .ok () (W.alloc (.map #[⟨.int .u8 0, v0, 0⟩, ⟨.int .u8 1, v1, 1⟩] 2)) :=
  run_update Tryz.underlying112 Tryz.underlying5 W g 1 [⟨.int .u8 0, v0, 0⟩] 1 v1 hg (by rfl)
theorem qup2 (W : World) (g : Nat) (v0 v1 v2 : Value) (hg : g = W.heap.size) : (Instr.mapUpdate 112 (.map (some g)) (.int .u8 5) v2).run Tryz.prog (W.alloc (.map #[⟨.int .u8 0, v0, 0⟩, ⟨.int .u8 1, v1, 1⟩] 2)) = .ok () (W.alloc (.map #[⟨.int .u8 0, v0, 0⟩, ⟨.int .u8 1, v1, 1⟩, ⟨.int .u8 5, v2, 2⟩] 3)) :=
  run_update Tryz.underlying112 Tryz.underlying5 W g 2 [⟨.int .u8 0, v0, 0⟩, ⟨.int .u8 1, v1, 1⟩] 5 v2 hg (by rfl)
theorem qup3 (W : World) (g : Nat) (v0 v1 v2 v3 : Value) (hg : g = W.heap.size) : (Instr.mapUpdate 112 (.map (some g)) (.int .u8 4) v3).run Tryz.prog (W.alloc (.map #[⟨.int .u8 0, v0, 0⟩, ⟨.int .u8 1, v1, 1⟩, ⟨.int .u8 5, v2, 2⟩] 3)) = .ok () (W.alloc (.map #[⟨.int .u8 0, v0, 0⟩, ⟨.int .u8 1, v1, 1⟩, ⟨.int .u8 5, v2, 2⟩, ⟨.int .u8 4, v3, 3⟩] 4)) :=
  run_update Tryz.underlying112 Tryz.underlying5 W g 3 [⟨.int .u8 0, v0, 0⟩, ⟨.int .u8 1, v1, 1⟩, ⟨.int .u8 5, v2, 2⟩] 4 v3 hg (by rfl)
theorem qup4 (W : World) (g : Nat) (v0 v1 v2 v3 v4 : Value) (hg : g = W.heap.size) : (Instr.mapUpdate 112 (.map (some g)) (.int .u8 2) v4).run Tryz.prog (W.alloc (.map #[⟨.int .u8 0, v0, 0⟩, ⟨.int .u8 1, v1, 1⟩, ⟨.int .u8 5, v2, 2⟩, ⟨.int .u8 4, v3, 3⟩] 4)) = .ok () (W.alloc (.map #[⟨.int .u8 0, v0, 0⟩, ⟨.int .u8 1, v1, 1⟩, ⟨.int .u8 5, v2, 2⟩, ⟨.int .u8 4, v3, 3⟩, ⟨.int .u8 2, v4, 4⟩] 5)) :=
  run_update Tryz.underlying112 Tryz.underlying5 W g 4 [⟨.int .u8 0, v0, 0⟩, ⟨.int .u8 1, v1, 1⟩, ⟨.int .u8 5, v2, 2⟩, ⟨.int .u8 4, v3, 3⟩] 2 v4 hg (by rfl)
theorem qup5 (W : World) (g : Nat) (v0 v1 v2 v3 v4 v5 : Value) (hg : g = W.heap.size) : (Instr.mapUpdate 112 (.map (some g)) (.int .u8 3) v5).run Tryz.prog (W.alloc (.map #[⟨.int .u8 0, v0, 0⟩, ⟨.int .u8 1, v1, 1⟩, ⟨.int .u8 5, v2, 2⟩, ⟨.int .u8 4, v3, 3⟩, ⟨.int .u8 2, v4, 4⟩] 5)) = .ok () (W.alloc (.map #[⟨.int .u8 0, v0, 0⟩, ⟨.int .u8 1, v1, 1⟩, ⟨.int .u8 5, v2, 2⟩, ⟨.int .u8 4, v3, 3⟩, ⟨.int .u8 2, v4, 4⟩, ⟨.int .u8 3, v5, 5⟩] 6)) :=
  run_update Tryz.underlying112 Tryz.underlying5 W g 5 [⟨.int .u8 0, v0, 0⟩, ⟨.int .u8 1, v1, 1⟩, ⟨.int .u8 5, v2, 2⟩, ⟨.int .u8 4, v3, 3⟩, ⟨.int .u8 2, v4, 4⟩] 3 v5 hg (by rfl)
theorem qup6 (W : World) (g : Nat) (v0 v1 v2 v3 v4 v5 v6 : Value) (hg : g = W.heap.size) : (Instr.mapUpdate 112 (.map (some g)) (.int .u8 10) v6).run Tryz.prog (W.alloc (.map #[⟨.int .u8 0, v0, 0⟩, ⟨.int .u8 1, v1, 1⟩, ⟨.int .u8 5, v2, 2⟩, ⟨.int .u8 4, v3, 3⟩, ⟨.int .u8 2, v4, 4⟩, ⟨.int .u8 3, v5, 5⟩] 6)) = .ok () (W.alloc (.map #[⟨.int .u8 0, v0, 0⟩, ⟨.int .u8 1, v1, 1⟩, ⟨.int .u8 5, v2, 2⟩, ⟨.int .u8 4, v3, 3⟩, ⟨.int .u8 2, v4, 4⟩, ⟨.int .u8 3, v5, 5⟩, ⟨.int .u8 10, v6, 6⟩] 7)) :=
  run_update Tryz.underlying112 Tryz.underlying5 W g 6 [⟨.int .u8 0, v0, 0⟩, ⟨.int .u8 1, v1, 1⟩, ⟨.int .u8 5, v2, 2⟩, ⟨.int .u8 4, v3, 3⟩, ⟨.int .u8 2, v4, 4⟩, ⟨.int .u8 3, v5, 5⟩] 10 v6 hg (by rfl)
theorem qup7 (W : World) (g : Nat) (v0 v1 v2 v3 v4 v5 v6 v7 : Value) (hg : g = W.heap.size) : (Instr.mapUpdate 112 (.map (some g)) (.int .u8 11) v7).run Tryz.prog (W.alloc (.map #[⟨.int .u8 0, v0, 0⟩, ⟨.int .u8 1, v1, 1⟩, ⟨.int .u8 5, v2, 2⟩, ⟨.int .u8 4, v3, 3⟩, ⟨.int .u8 2, v4, 4⟩, ⟨.int .u8 3, v5, 5⟩, ⟨.int .u8 10, v6, 6⟩] 7)) = .ok () (W.alloc (.map #[⟨.int .u8 0, v0, 0⟩, ⟨.int .u8 1, v1, 1⟩, ⟨.int .u8 5, v2, 2⟩, ⟨.int .u8 4, v3, 3⟩, ⟨.int .u8 2, v4, 4⟩, ⟨.int .u8 3, v5, 5⟩, ⟨.int .u8 10, v6, 6⟩, ⟨.int .u8 11, v7, 7⟩] 8)) :=
  run_update Tryz.underlying112 Tryz.underlying5 W g 7 [⟨.int .u8 0, v0, 0⟩, ⟨.int .u8 1, v1, 1⟩, ⟨.int .u8 5, v2, 2⟩, ⟨.int .u8 4, v3, 3⟩, ⟨.int .u8 2, v4, 4⟩, ⟨.int .u8 3, v5, 5⟩, ⟨.int .u8 10, v6, 6⟩] 11 v7 hg (by rfl)
theorem qup8 (W : World) (g : Nat) (v0 v1 v2 v3 v4 v5 v6 v7 v8 : Value) (hg : g = W.heap.size) : (Instr.mapUpdate 112 (.map (some g)) (.int .u8 6) v8).run Tryz.prog (W.alloc (.map #[⟨.int .u8 0, v0, 0⟩, ⟨.int .u8 1, v1, 1⟩, ⟨.int .u8 5, v2, 2⟩, ⟨.int .u8 4, v3, 3⟩, ⟨.int .u8 2, v4, 4⟩, ⟨.int .u8 3, v5, 5⟩, ⟨.int .u8 10, v6, 6⟩, ⟨.int .u8 11, v7, 7⟩] 8)) = .ok () (W.alloc (.map #[⟨.int .u8 0, v0, 0⟩, ⟨.int .u8 1, v1, 1⟩, ⟨.int .u8 5, v2, 2⟩, ⟨.int .u8 4, v3, 3⟩, ⟨.int .u8 2, v4, 4⟩, ⟨.int .u8 3, v5, 5⟩, ⟨.int .u8 10, v6, 6⟩, ⟨.int .u8 11, v7, 7⟩, ⟨.int .u8 6, v8, 8⟩] 9)) :=
  run_update Tryz.underlying112 Tryz.underlying5 W g 8 [⟨.int .u8 0, v0, 0⟩, ⟨.int .u8 1, v1, 1⟩, ⟨.int .u8 5, v2, 2⟩, ⟨.int .u8 4, v3, 3⟩, ⟨.int .u8 2, v4, 4⟩, ⟨.int .u8 3, v5, 5⟩, ⟨.int .u8 10, v6, 6⟩, ⟨.int .u8 11, v7, 7⟩] 6 v8 hg (by rfl)
theorem qup9 (W : World) (g : Nat) (v0 v1 v2 v3 v4 v5 v6 v7 v8 v9 : Value) (hg : g = W.heap.size) : (Instr.mapUpdate 112 (.map (some g)) (.int .u8 7) v9).run Tryz.prog (W.alloc (.map #[⟨.int .u8 0, v0, 0⟩, ⟨.int .u8 1, v1, 1⟩, ⟨.int .u8 5, v2, 2⟩, ⟨.int .u8 4, v3, 3⟩, ⟨.int .u8 2, v4, 4⟩, ⟨.int .u8 3, v5, 5⟩, ⟨.int .u8 10, v6, 6⟩, ⟨.int .u8 11, v7, 7⟩, ⟨.int .u8 6, v8, 8⟩] 9)) = .ok () (W.alloc (.map #[⟨.int .u8 0, v0, 0⟩, ⟨.int .u8 1, v1, 1⟩, ⟨.int .u8 5, v2, 2⟩, ⟨.int .u8 4, v3, 3⟩, ⟨.int .u8 2, v4, 4⟩, ⟨.int .u8 3, v5, 5⟩, ⟨.int .u8 10, v6, 6⟩, ⟨.int .u8 11, v7, 7⟩, ⟨.int .u8 6, v8, 8⟩, ⟨.int .u8 7, v9, 9⟩] 10)) :=
  run_update Tryz.underlying112 Tryz.underlying5 W g 9 [⟨.int .u8 0, v0, 0⟩, ⟨.int .u8 1, v1, 1⟩, ⟨.int .u8 5, v2, 2⟩, ⟨.int .u8 4, v3, 3⟩, ⟨.int .u8 2, v4, 4⟩, ⟨.int .u8 3, v5, 5⟩, ⟨.int .u8 10, v6, 6⟩, ⟨.int .u8 11, v7, 7⟩, ⟨.int .u8 6, v8, 8⟩] 7 v9 hg (by rfl)
theorem qup10 (W : World) (g : Nat) (v0 v1 v2 v3 v4 v5 v6 v7 v8 v9 v10 : Value) (hg : g = W.heap.size) : (Instr.mapUpdate 112 (.map (some g)) (.int .u8 12) v10).run Tryz.prog (W.alloc (.map #[⟨.int .u8 0, v0, 0⟩, ⟨.int .u8 1, v1, 1⟩, ⟨.int .u8 5, v2, 2⟩, ⟨.int .u8 4, v3, 3⟩, ⟨.int .u8 2, v4, 4⟩, ⟨.int .u8 3, v5, 5⟩, ⟨.int .u8 10, v6, 6⟩, ⟨.int .u8 11, v7, 7⟩, ⟨.int .u8 6, v8, 8⟩, ⟨.int .u8 7, v9, 9⟩] 10)) = .ok () (W.alloc (.map #[⟨.int .u8 0, v0, 0⟩, ⟨.int .u8 1, v1, 1⟩, ⟨.int .u8 5, v2, 2⟩, ⟨.int .u8 4, v3, 3⟩, ⟨.int .u8 2, v4, 4⟩, ⟨.int .u8 3, v5, 5⟩, ⟨.int .u8 10, v6, 6⟩, ⟨.int .u8 11, v7, 7⟩, ⟨.int .u8 6, v8, 8⟩, ⟨.int .u8 7, v9, 9⟩, ⟨.int .u8 12, v10, 10⟩] 11)) :=
  run_update Tryz.underlying112 Tryz.underlying5 W g 10 [⟨.int .u8 0, v0, 0⟩, ⟨.int .u8 1, v1, 1⟩, ⟨.int .u8 5, v2, 2⟩, ⟨.int .u8 4, v3, 3⟩, ⟨.int .u8 2, v4, 4⟩, ⟨.int .u8 3, v5, 5⟩, ⟨.int .u8 10, v6, 6⟩, ⟨.int .u8 11, v7, 7⟩, ⟨.int .u8 6, v8, 8⟩, ⟨.int .u8 7, v9, 9⟩] 12 v10 hg (by rfl)
theorem qup11 (W : World) (g : Nat) (v0 v1 v2 v3 v4 v5 v6 v7 v8 v9 v10 v11 : Value) (hg : g = W.heap.size) : (Instr.mapUpdate 112 (.map (some g)) (.int .u8 13) v11).run Tryz.prog (W.alloc (.map #[⟨.int .u8 0, v0, 0⟩, ⟨.int .u8 1, v1, 1⟩, ⟨.int .u8 5, v2, 2⟩, ⟨.int .u8 4, v3, 3⟩, ⟨.int .u8 2, v4, 4⟩, ⟨.int .u8 3, v5, 5⟩, ⟨.int .u8 10, v6, 6⟩, ⟨.int .u8 11, v7, 7⟩, ⟨.int .u8 6, v8, 8⟩, ⟨.int .u8 7, v9, 9⟩, ⟨.int .u8 12, v10, 10⟩] 11)) = .ok () (W.alloc (.map #[⟨.int .u8 0, v0, 0⟩, ⟨.int .u8 1, v1, 1⟩, ⟨.int .u8 5, v2, 2⟩, ⟨.int .u8 4, v3, 3⟩, ⟨.int .u8 2, v4, 4⟩, ⟨.int .u8 3, v5, 5⟩, ⟨.int .u8 10, v6, 6⟩, ⟨.int .u8 11, v7, 7⟩, ⟨.int .u8 6, v8, 8⟩, ⟨.int .u8 7, v9, 9⟩, ⟨.int .u8 12, v10, 10⟩, ⟨.int .u8 13, v11, 11⟩] 12)) :=
  run_update Tryz.underlying112 Tryz.underlying5 W g 11 [⟨.int .u8 0, v0, 0⟩, ⟨.int .u8 1, v1, 1⟩, ⟨.int .u8 5, v2, 2⟩, ⟨.int .u8 4, v3, 3⟩, ⟨.int .u8 2, v4, 4⟩, ⟨.int .u8 3, v5, 5⟩, ⟨.int .u8 10, v6, 6⟩, ⟨.int .u8 11, v7, 7⟩, ⟨.int .u8 6, v8, 8⟩, ⟨.int .u8 7, v9, 9⟩, ⟨.int .u8 12, v10, 10⟩] 13 v11 hg (by rfl)
/-- The table that questions makes: p and q are the places of size and sign. -/
def asksT (p q : Nat) : List MapEntry :=
  [⟨.int .u8 0, fv 181 [], 0⟩, ⟨.int .u8 1, fv 182 [], 1⟩, ⟨.int .u8 5, fv 183 [], 2⟩, ⟨.int .u8 4, fv 184 [], 3⟩, ⟨.int .u8 2, fv 185 [], 4⟩, ⟨.int .u8 3, fv 187 [], 5⟩, ⟨.int .u8 10, fv 188 [], 6⟩, ⟨.int .u8 11, fv 189 [], 7⟩, ⟨.int .u8 6, fv 190 [q], 8⟩, ⟨.int .u8 7, fv 192 [q], 9⟩, ⟨.int .u8 12, fv 193 [q], 10⟩, ⟨.int .u8 13, fv 194 [q], 11⟩]

def asksW (wd : Bool) (w : World) : World := ((w.alloc (.cells #[.int .i64 (sz wd)] 3)).alloc (.cells #[fv 179 [w.heap.size]] 68)).alloc (.map (asksT w.heap.size (w.heap.size + 1)).toArray 12)

set_option maxHeartbeats 1000000 in
theorem questions_any (wd : Bool) (w : World) : Calls Tryz.prog 89 #[.int .i64 (sz wd)] w fun e w' => e = .returned (.map (some (w.heap.size + 2))) ∧ w' = asksW wd w := by
  have hmf : ∀ (fn : Fn) (first cap : Array Value) (w : World), (Instr.makeFunc fn first cap).run Tryz.prog w = .ok (.func fn first cap) w := fun _ _ _ _ => rfl
  have hmm := @run_makeMap Tryz.prog
  have h0 := qup0
  have h1 := qup1
  have h2 := qup2
  have h3 := qup3
  have h4 := qup4
  have h5 := qup5
  have h6 := qup6
  have h7 := qup7
  have h8 := qup8
  have h9 := qup9
  have h10 := qup10
  have h11 := qup11
  go_enter Tryz.func89, Tryz.ntmps89
  go_wp2
  go_ret
  exact ⟨rfl, rfl⟩

theorem asks_heap (wd : Bool) (w : World) : (asksW wd w).heap[w.heap.size + 2]? = some (.map (asksT w.heap.size (w.heap.size + 1)).toArray 12) := by
  have := (MapKept.heap_alloc ((w.alloc (.cells #[.int .i64 (sz wd)] 3)).alloc (.cells #[fv 179 [w.heap.size]] 68)) (.map (asksT w.heap.size (w.heap.size + 1)).toArray 12)).1
  simpa [asksW] using this
theorem asks_gr (wd : Bool) (w : World) : Gr w (asksW wd w) := by
  unfold asksW
  exact ⟨by go_grown, Grown.allocMap (by go_grown) _ _⟩
theorem asks_size (wd : Bool) (w : World) : (asksW wd w).cell? ⟨w.heap.size, 0, none⟩ = some (.int .i64 (sz wd)) := by
  rw [asksW, World.cell?_alloc_past _ _ _ (by simp; omega), World.cell?_alloc_past _ _ _ (by simp), World.cell?_alloc_at _ _ _ _ rfl]; rfl
theorem asks_sign (wd : Bool) (w : World) : (asksW wd w).cell? ⟨w.heap.size + 1, 0, none⟩ = some (fv 179 [w.heap.size]) := by
  rw [asksW, World.cell?_alloc_past _ _ _ (by simp), World.cell?_alloc_at _ _ _ _ (by simp)]; rfl

theorem qlook0 (wd : Bool) (w : World) : (Instr.lookup 112 (.map (some (w.heap.size + 2))) (.int .u8 0) true).run Tryz.prog (asksW wd w) = .ok (.tuple #[fv 181 [], .bool true]) (asksW wd w) :=
  run_look_yes Tryz.underlying112 Tryz.underlying5 ((asksT w.heap.size (w.heap.size + 1)).take 0) ((asksT w.heap.size (w.heap.size + 1)).drop 1) 0 _ (asks_heap wd w) (by rfl)
theorem qlook1 (wd : Bool) (w : World) : (Instr.lookup 112 (.map (some (w.heap.size + 2))) (.int .u8 1) true).run Tryz.prog (asksW wd w) = .ok (.tuple #[fv 182 [], .bool true]) (asksW wd w) :=
  run_look_yes Tryz.underlying112 Tryz.underlying5 ((asksT w.heap.size (w.heap.size + 1)).take 1) ((asksT w.heap.size (w.heap.size + 1)).drop 2) 1 _ (asks_heap wd w) (by rfl)
theorem qlook5 (wd : Bool) (w : World) : (Instr.lookup 112 (.map (some (w.heap.size + 2))) (.int .u8 5) true).run Tryz.prog (asksW wd w) = .ok (.tuple #[fv 183 [], .bool true]) (asksW wd w) :=
  run_look_yes Tryz.underlying112 Tryz.underlying5 ((asksT w.heap.size (w.heap.size + 1)).take 2) ((asksT w.heap.size (w.heap.size + 1)).drop 3) 5 _ (asks_heap wd w) (by rfl)
theorem qlook4 (wd : Bool) (w : World) : (Instr.lookup 112 (.map (some (w.heap.size + 2))) (.int .u8 4) true).run Tryz.prog (asksW wd w) = .ok (.tuple #[fv 184 [], .bool true]) (asksW wd w) :=
  run_look_yes Tryz.underlying112 Tryz.underlying5 ((asksT w.heap.size (w.heap.size + 1)).take 3) ((asksT w.heap.size (w.heap.size + 1)).drop 4) 4 _ (asks_heap wd w) (by rfl)
theorem qlook2 (wd : Bool) (w : World) : (Instr.lookup 112 (.map (some (w.heap.size + 2))) (.int .u8 2) true).run Tryz.prog (asksW wd w) = .ok (.tuple #[fv 185 [], .bool true]) (asksW wd w) :=
  run_look_yes Tryz.underlying112 Tryz.underlying5 ((asksT w.heap.size (w.heap.size + 1)).take 4) ((asksT w.heap.size (w.heap.size + 1)).drop 5) 2 _ (asks_heap wd w) (by rfl)
theorem qlook3 (wd : Bool) (w : World) : (Instr.lookup 112 (.map (some (w.heap.size + 2))) (.int .u8 3) true).run Tryz.prog (asksW wd w) = .ok (.tuple #[fv 187 [], .bool true]) (asksW wd w) :=
  run_look_yes Tryz.underlying112 Tryz.underlying5 ((asksT w.heap.size (w.heap.size + 1)).take 5) ((asksT w.heap.size (w.heap.size + 1)).drop 6) 3 _ (asks_heap wd w) (by rfl)
theorem qlook10 (wd : Bool) (w : World) : (Instr.lookup 112 (.map (some (w.heap.size + 2))) (.int .u8 10) true).run Tryz.prog (asksW wd w) = .ok (.tuple #[fv 188 [], .bool true]) (asksW wd w) :=
  run_look_yes Tryz.underlying112 Tryz.underlying5 ((asksT w.heap.size (w.heap.size + 1)).take 6) ((asksT w.heap.size (w.heap.size + 1)).drop 7) 10 _ (asks_heap wd w) (by rfl)
theorem qlook11 (wd : Bool) (w : World) : (Instr.lookup 112 (.map (some (w.heap.size + 2))) (.int .u8 11) true).run Tryz.prog (asksW wd w) = .ok (.tuple #[fv 189 [], .bool true]) (asksW wd w) :=
  run_look_yes Tryz.underlying112 Tryz.underlying5 ((asksT w.heap.size (w.heap.size + 1)).take 7) ((asksT w.heap.size (w.heap.size + 1)).drop 8) 11 _ (asks_heap wd w) (by rfl)
theorem qlook6 (wd : Bool) (w : World) : (Instr.lookup 112 (.map (some (w.heap.size + 2))) (.int .u8 6) true).run Tryz.prog (asksW wd w) = .ok (.tuple #[fv 190 [w.heap.size + 1], .bool true]) (asksW wd w) :=
  run_look_yes Tryz.underlying112 Tryz.underlying5 ((asksT w.heap.size (w.heap.size + 1)).take 8) ((asksT w.heap.size (w.heap.size + 1)).drop 9) 6 _ (asks_heap wd w) (by rfl)
theorem qlook7 (wd : Bool) (w : World) : (Instr.lookup 112 (.map (some (w.heap.size + 2))) (.int .u8 7) true).run Tryz.prog (asksW wd w) = .ok (.tuple #[fv 192 [w.heap.size + 1], .bool true]) (asksW wd w) :=
  run_look_yes Tryz.underlying112 Tryz.underlying5 ((asksT w.heap.size (w.heap.size + 1)).take 9) ((asksT w.heap.size (w.heap.size + 1)).drop 10) 7 _ (asks_heap wd w) (by rfl)
theorem qlook12 (wd : Bool) (w : World) : (Instr.lookup 112 (.map (some (w.heap.size + 2))) (.int .u8 12) true).run Tryz.prog (asksW wd w) = .ok (.tuple #[fv 193 [w.heap.size + 1], .bool true]) (asksW wd w) :=
  run_look_yes Tryz.underlying112 Tryz.underlying5 ((asksT w.heap.size (w.heap.size + 1)).take 10) ((asksT w.heap.size (w.heap.size + 1)).drop 11) 12 _ (asks_heap wd w) (by rfl)
theorem qlook13 (wd : Bool) (w : World) : (Instr.lookup 112 (.map (some (w.heap.size + 2))) (.int .u8 13) true).run Tryz.prog (asksW wd w) = .ok (.tuple #[fv 194 [w.heap.size + 1], .bool true]) (asksW wd w) :=
  run_look_yes Tryz.underlying112 Tryz.underlying5 ((asksT w.heap.size (w.heap.size + 1)).take 11) ((asksT w.heap.size (w.heap.size + 1)).drop 12) 13 _ (asks_heap wd w) (by rfl)
theorem qlook_no (wd : Bool) (w : World) (c : Int) (hc : c ≠ 0 ∧ c ≠ 1 ∧ c ≠ 5 ∧ c ≠ 4 ∧ c ≠ 2 ∧ c ≠ 3 ∧ c ≠ 10 ∧ c ≠ 11 ∧ c ≠ 6 ∧ c ≠ 7 ∧ c ≠ 12 ∧ c ≠ 13) : (Instr.lookup 112 (.map (some (w.heap.size + 2))) (.int .u8 c) true).run Tryz.prog (asksW wd w) = .ok (.tuple #[.nilFunc, .bool false]) (asksW wd w) :=
  run_look_no Tryz.underlying112 Tryz.underlying5 _ c .nilFunc (asks_heap wd w) (by rfl) (by simp [asksT, keyNe, hc])

end Go.Proofs.YtcbcijibgpaipaaGreat.Wd
end
section
namespace Go.Proofs.YtcbcijibgpaipaaGreat.Wd
open Go.ChangeShapes Go.WideShapes Go.ChangeAt Go.RowKit
set_option linter.unusedVariables false
set_option maxRecDepth 20000

theorem gr_drewN (w : World) : ∀ n, Gr w (w.drewN n)
  | 0 => Gr.refl w
  | n + 1 => (gr_drewN w n).trans ⟨(Below.refl _ _).drew, (Grown.refl _).drew⟩

end Go.Proofs.YtcbcijibgpaipaaGreat.Wd
end
section
namespace Go.Proofs.YtcbcijibgpaipaaGreat.Wd
open Go.ChangeShapes Go.WideShapes Go.ChangeAt Go.RowKit
set_option linter.unusedVariables false
set_option maxRecDepth 20000

/-- What a code asks of two numbers that are cut to the size already. -/
def askV (wd : Bool) (c a b : Int) : Bool :=
  if c = 0 then true else if c = 1 then a == b else if c = 5 then a != b else if c = 4 then bits .and .u64 a b != 0
  else if c = 2 then decide (b < a) else if c = 3 then !decide (a < b) else if c = 10 then decide (a < b) else if c = 11 then !decide (b < a)
  else if c = 6 then decide (signV b (sz wd) < signV a (sz wd)) else if c = 7 then !decide (signV a (sz wd) < signV b (sz wd))
  else if c = 12 then decide (signV a (sz wd) < signV b (sz wd)) else if c = 13 then !decide (signV b (sz wd) < signV a (sz wd)) else false

theorem above_u (a b : Int) (w : World) : Calls Tryz.prog 186 #[.int .u64 a, .int .u64 b] w fun e w' => e = .returned (.bool (decide (b < a))) ∧ w' = w := by
  go_enter Tryz.func186, Tryz.ntmps186
  go_wp2
  go_ret
  exact ⟨rfl, rfl⟩
theorem above_i (a b : Int) (w : World) : Calls Tryz.prog 191 #[.int .i64 a, .int .i64 b] w fun e w' => e = .returned (.bool (decide (b < a))) ∧ w' = w := by
  go_enter Tryz.func191, Tryz.ntmps191
  go_wp2
  go_ret
  exact ⟨rfl, rfl⟩
theorem c44 (wd : Bool) (a : Int) (p : Nat) (ha : 0 ≤ a ∧ a ≤ 18446744073709551615) (w : World) (hp : w.cell? ⟨p, 0, none⟩ = some (.int .i64 (sz wd))) : Calls Tryz.prog 179 #[.int .u64 a, .pointer (some ⟨p, 0, none⟩)] w fun e w' => e = .returned (.int .i64 (signV a (sz wd))) ∧ w' = w := by
  go_enter Tryz.func179, Tryz.ntmps179
  go_wp2_with (go_at_call 180; refine (sign_any a _ ha.1 ha.2 _).mono ?_; rintro e w' ⟨rfl, rfl⟩)
  go_ret
  exact ⟨rfl, rfl⟩
theorem c45 (wd : Bool) (a b : Int) (ha : 0 ≤ a ∧ a ≤ 18446744073709551615) (hb : 0 ≤ b ∧ b ≤ 18446744073709551615) (w : World) : Calls Tryz.prog 181 #[.int .u64 a, .int .u64 b] w fun e w' => e = .returned (.bool (askV wd 0 a b)) ∧ w' = w := by
  go_enter Tryz.func181, Tryz.ntmps181
  go_wp2
  go_ret
  exact ⟨rfl, rfl⟩
theorem c46 (wd : Bool) (a b : Int) (ha : 0 ≤ a ∧ a ≤ 18446744073709551615) (hb : 0 ≤ b ∧ b ≤ 18446744073709551615) (w : World) : Calls Tryz.prog 182 #[.int .u64 a, .int .u64 b] w fun e w' => e = .returned (.bool (askV wd 1 a b)) ∧ w' = w := by
  go_enter Tryz.func182, Tryz.ntmps182
  go_wp2
  go_ret
  exact ⟨rfl, rfl⟩
theorem c47 (wd : Bool) (a b : Int) (ha : 0 ≤ a ∧ a ≤ 18446744073709551615) (hb : 0 ≤ b ∧ b ≤ 18446744073709551615) (w : World) : Calls Tryz.prog 183 #[.int .u64 a, .int .u64 b] w fun e w' => e = .returned (.bool (askV wd 5 a b)) ∧ w' = w := by
  go_enter Tryz.func183, Tryz.ntmps183
  go_wp2
  go_ret
  exact ⟨rfl, rfl⟩
theorem c48 (wd : Bool) (a b : Int) (ha : 0 ≤ a ∧ a ≤ 18446744073709551615) (hb : 0 ≤ b ∧ b ≤ 18446744073709551615) (w : World) : Calls Tryz.prog 184 #[.int .u64 a, .int .u64 b] w fun e w' => e = .returned (.bool (askV wd 4 a b)) ∧ w' = w := by
  go_enter Tryz.func184, Tryz.ntmps184
  go_wp2
  go_ret
  exact ⟨rfl, rfl⟩
theorem c49 (wd : Bool) (a b : Int) (ha : 0 ≤ a ∧ a ≤ 18446744073709551615) (hb : 0 ≤ b ∧ b ≤ 18446744073709551615) (w : World) : Calls Tryz.prog 185 #[.int .u64 a, .int .u64 b] w fun e w' => e = .returned (.bool (askV wd 2 a b)) ∧ w' = w := by
  go_enter Tryz.func185, Tryz.ntmps185
  go_wp2_with (go_at_call 186; refine (above_u _ _ _).mono ?_; rintro e w' ⟨rfl, rfl⟩)
  go_ret
  exact ⟨rfl, rfl⟩
theorem c51 (wd : Bool) (a b : Int) (ha : 0 ≤ a ∧ a ≤ 18446744073709551615) (hb : 0 ≤ b ∧ b ≤ 18446744073709551615) (w : World) : Calls Tryz.prog 187 #[.int .u64 a, .int .u64 b] w fun e w' => e = .returned (.bool (askV wd 3 a b)) ∧ w' = w := by
  go_enter Tryz.func187, Tryz.ntmps187
  go_wp2_with (go_at_call 186; refine (above_u _ _ _).mono ?_; rintro e w' ⟨rfl, rfl⟩)
  go_ret
  exact ⟨rfl, rfl⟩
theorem c52 (wd : Bool) (a b : Int) (ha : 0 ≤ a ∧ a ≤ 18446744073709551615) (hb : 0 ≤ b ∧ b ≤ 18446744073709551615) (w : World) : Calls Tryz.prog 188 #[.int .u64 a, .int .u64 b] w fun e w' => e = .returned (.bool (askV wd 10 a b)) ∧ w' = w := by
  go_enter Tryz.func188, Tryz.ntmps188
  go_wp2_with (go_at_call 186; refine (above_u _ _ _).mono ?_; rintro e w' ⟨rfl, rfl⟩)
  go_ret
  exact ⟨rfl, rfl⟩
theorem c53 (wd : Bool) (a b : Int) (ha : 0 ≤ a ∧ a ≤ 18446744073709551615) (hb : 0 ≤ b ∧ b ≤ 18446744073709551615) (w : World) : Calls Tryz.prog 189 #[.int .u64 a, .int .u64 b] w fun e w' => e = .returned (.bool (askV wd 11 a b)) ∧ w' = w := by
  go_enter Tryz.func189, Tryz.ntmps189
  go_wp2_with (go_at_call 186; refine (above_u _ _ _).mono ?_; rintro e w' ⟨rfl, rfl⟩)
  go_ret
  exact ⟨rfl, rfl⟩
theorem c54 (wd : Bool) (a b : Int) (p q : Nat) (ha : 0 ≤ a ∧ a ≤ 18446744073709551615) (hb : 0 ≤ b ∧ b ≤ 18446744073709551615) (w : World) (hp : ∀ n, (w.drewN n).cell? ⟨p, 0, none⟩ = some (.int .i64 (sz wd))) (hq : w.cell? ⟨q, 0, none⟩ = some (fv 179 [p])) : Calls Tryz.prog 190 #[.int .u64 a, .int .u64 b, .pointer (some ⟨q, 0, none⟩)] w fun e w' => e = .returned (.bool (askV wd 6 a b)) ∧ ∃ n, w' = w.drewN n := by
  have hq' : w.cell? ⟨q, 0, none⟩ = some (.func (.func 179) #[] #[.pointer (some ⟨p, 0, none⟩)]) := hq
  clear hq
  go_enter Tryz.func190, Tryz.ntmps190
  go_wp2
  go_quiet (first | (go_at_call 179; first | exact Calls.quiet_of_same (c44 wd a p ha _ (hp _)) | exact Calls.quiet_of_same (c44 wd b p hb _ (hp _))) | (go_at_call 191; exact Calls.quiet_of_same (above_i _ _ _)))
  go_wp2
  go_ret
  exact ⟨rfl, _, rfl⟩
theorem c56 (wd : Bool) (a b : Int) (p q : Nat) (ha : 0 ≤ a ∧ a ≤ 18446744073709551615) (hb : 0 ≤ b ∧ b ≤ 18446744073709551615) (w : World) (hp : ∀ n, (w.drewN n).cell? ⟨p, 0, none⟩ = some (.int .i64 (sz wd))) (hq : w.cell? ⟨q, 0, none⟩ = some (fv 179 [p])) : Calls Tryz.prog 192 #[.int .u64 a, .int .u64 b, .pointer (some ⟨q, 0, none⟩)] w fun e w' => e = .returned (.bool (askV wd 7 a b)) ∧ ∃ n, w' = w.drewN n := by
  have hq' : w.cell? ⟨q, 0, none⟩ = some (.func (.func 179) #[] #[.pointer (some ⟨p, 0, none⟩)]) := hq
  clear hq
  go_enter Tryz.func192, Tryz.ntmps192
  go_wp2
  go_quiet (first | (go_at_call 179; first | exact Calls.quiet_of_same (c44 wd a p ha _ (hp _)) | exact Calls.quiet_of_same (c44 wd b p hb _ (hp _))) | (go_at_call 191; exact Calls.quiet_of_same (above_i _ _ _)))
  go_wp2
  go_ret
  exact ⟨rfl, _, rfl⟩
theorem c57 (wd : Bool) (a b : Int) (p q : Nat) (ha : 0 ≤ a ∧ a ≤ 18446744073709551615) (hb : 0 ≤ b ∧ b ≤ 18446744073709551615) (w : World) (hp : ∀ n, (w.drewN n).cell? ⟨p, 0, none⟩ = some (.int .i64 (sz wd))) (hq : w.cell? ⟨q, 0, none⟩ = some (fv 179 [p])) : Calls Tryz.prog 193 #[.int .u64 a, .int .u64 b, .pointer (some ⟨q, 0, none⟩)] w fun e w' => e = .returned (.bool (askV wd 12 a b)) ∧ ∃ n, w' = w.drewN n := by
  have hq' : w.cell? ⟨q, 0, none⟩ = some (.func (.func 179) #[] #[.pointer (some ⟨p, 0, none⟩)]) := hq
  clear hq
  go_enter Tryz.func193, Tryz.ntmps193
  go_wp2
  go_quiet (first | (go_at_call 179; first | exact Calls.quiet_of_same (c44 wd a p ha _ (hp _)) | exact Calls.quiet_of_same (c44 wd b p hb _ (hp _))) | (go_at_call 191; exact Calls.quiet_of_same (above_i _ _ _)))
  go_wp2
  go_ret
  exact ⟨rfl, _, rfl⟩
theorem c58 (wd : Bool) (a b : Int) (p q : Nat) (ha : 0 ≤ a ∧ a ≤ 18446744073709551615) (hb : 0 ≤ b ∧ b ≤ 18446744073709551615) (w : World) (hp : ∀ n, (w.drewN n).cell? ⟨p, 0, none⟩ = some (.int .i64 (sz wd))) (hq : w.cell? ⟨q, 0, none⟩ = some (fv 179 [p])) : Calls Tryz.prog 194 #[.int .u64 a, .int .u64 b, .pointer (some ⟨q, 0, none⟩)] w fun e w' => e = .returned (.bool (askV wd 13 a b)) ∧ ∃ n, w' = w.drewN n := by
  have hq' : w.cell? ⟨q, 0, none⟩ = some (.func (.func 179) #[] #[.pointer (some ⟨p, 0, none⟩)]) := hq
  clear hq
  go_enter Tryz.func194, Tryz.ntmps194
  go_wp2
  go_quiet (first | (go_at_call 179; first | exact Calls.quiet_of_same (c44 wd a p ha _ (hp _)) | exact Calls.quiet_of_same (c44 wd b p hb _ (hp _))) | (go_at_call 191; exact Calls.quiet_of_same (above_i _ _ _)))
  go_wp2
  go_ret
  exact ⟨rfl, _, rfl⟩
end Go.Proofs.YtcbcijibgpaipaaGreat.Wd
end
section
namespace Go.Proofs.YtcbcijibgpaipaaGreat.Wd
open Go.ChangeShapes Go.WideShapes Go.ChangeAt Go.RowKit
set_option linter.unusedVariables false
set_option maxRecDepth 20000

theorem low_bd (wd : Bool) (x : Int) : 0 ≤ lowV x (sz wd) ∧ lowV x (sz wd) ≤ 18446744073709551615 := by
  cases wd
  · rw [show sz false = 4 from rfl, lowV4]; omega
  · rw [show sz true = 8 from rfl, lowV8]; omega
def asks (c : Int) : Bool := decide (c ≤ 13 ∧ c ≠ 8 ∧ c ≠ 9)
def asksV (wd : Bool) (c a b : Int) : Bool := if asks c then askV wd c (lowV a (sz wd)) (lowV b (sz wd)) else false
def errA (c : Int) : Int := if asks c then 0 else 20

theorem cell_drewN (w : World) (x : Addr) : ∀ n, (w.drewN n).cell? x = w.cell? x
  | 0 => rfl
  | n + 1 => cell_drewN w x n
theorem asks_cell (wd : Bool) (w : World) (n : Nat) : ((asksW wd w).drewN n).cell? ⟨w.heap.size, 0, none⟩ = some (.int .i64 (sz wd)) := by
  rw [cell_drewN]; exact asks_size wd w

set_option maxHeartbeats 1000000 in
theorem asks0 (wd : Bool) (a b : Int) (ha : 0 ≤ a ∧ a ≤ 18446744073709551615) (hb : 0 ≤ b ∧ b ≤ 18446744073709551615) (w : World) : Calls Tryz.prog 35 #[.int .u8 0, .bool wd, .int .u64 a, .int .u64 b] w fun e w' => e = .returned (.tuple #[.bool (asksV wd 0 a b), .int .i64 0]) ∧ Gr w w' := by
  have hl := qlook0 wd w
  have hz : ∀ n, ((asksW wd w).drewN n).cell? ⟨w.heap.size, 0, none⟩ = some (.int .i64 (sz wd)) := fun n => asks_cell wd w n
  have x0 := low_bd wd a
  have y0 := low_bd wd b
  obtain ⟨a0, a1⟩ := ha
  obtain ⟨b0, b1⟩ := hb
  go_enter Tryz.func35, Tryz.ntmps35
  go_wp2_with (first
    | (go_at_call 88; refine (sizeOf_any wd _).mono ?_; rintro e w' ⟨rfl, rfl⟩)
    | (go_at_call 89; refine (questions_any wd _).mono ?_; rintro e w' ⟨rfl, rfl⟩)
    | (go_at_call 90; refine (low_any _ _ (by assumption) (by assumption) _).mono ?_; rintro e w' ⟨rfl, rfl⟩)
    | (go_at_call 181; refine (c45 wd _ _ x0 y0 _).mono ?_; rintro e w' ⟨rfl, rfl⟩))
  go_ret2
  exact ⟨rfl, asks_gr wd _⟩
set_option maxHeartbeats 1000000 in
theorem asks1 (wd : Bool) (a b : Int) (ha : 0 ≤ a ∧ a ≤ 18446744073709551615) (hb : 0 ≤ b ∧ b ≤ 18446744073709551615) (w : World) : Calls Tryz.prog 35 #[.int .u8 1, .bool wd, .int .u64 a, .int .u64 b] w fun e w' => e = .returned (.tuple #[.bool (asksV wd 1 a b), .int .i64 0]) ∧ Gr w w' := by
  have hl := qlook1 wd w
  have hz : ∀ n, ((asksW wd w).drewN n).cell? ⟨w.heap.size, 0, none⟩ = some (.int .i64 (sz wd)) := fun n => asks_cell wd w n
  have x0 := low_bd wd a
  have y0 := low_bd wd b
  obtain ⟨a0, a1⟩ := ha
  obtain ⟨b0, b1⟩ := hb
  go_enter Tryz.func35, Tryz.ntmps35
  go_wp2_with (first
    | (go_at_call 88; refine (sizeOf_any wd _).mono ?_; rintro e w' ⟨rfl, rfl⟩)
    | (go_at_call 89; refine (questions_any wd _).mono ?_; rintro e w' ⟨rfl, rfl⟩)
    | (go_at_call 90; refine (low_any _ _ (by assumption) (by assumption) _).mono ?_; rintro e w' ⟨rfl, rfl⟩)
    | (go_at_call 182; refine (c46 wd _ _ x0 y0 _).mono ?_; rintro e w' ⟨rfl, rfl⟩))
  go_ret2
  exact ⟨rfl, asks_gr wd _⟩
set_option maxHeartbeats 1000000 in
theorem asks2 (wd : Bool) (a b : Int) (ha : 0 ≤ a ∧ a ≤ 18446744073709551615) (hb : 0 ≤ b ∧ b ≤ 18446744073709551615) (w : World) : Calls Tryz.prog 35 #[.int .u8 2, .bool wd, .int .u64 a, .int .u64 b] w fun e w' => e = .returned (.tuple #[.bool (asksV wd 2 a b), .int .i64 0]) ∧ Gr w w' := by
  have hl := qlook2 wd w
  have hz : ∀ n, ((asksW wd w).drewN n).cell? ⟨w.heap.size, 0, none⟩ = some (.int .i64 (sz wd)) := fun n => asks_cell wd w n
  have x0 := low_bd wd a
  have y0 := low_bd wd b
  obtain ⟨a0, a1⟩ := ha
  obtain ⟨b0, b1⟩ := hb
  go_enter Tryz.func35, Tryz.ntmps35
  go_wp2_with (first
    | (go_at_call 88; refine (sizeOf_any wd _).mono ?_; rintro e w' ⟨rfl, rfl⟩)
    | (go_at_call 89; refine (questions_any wd _).mono ?_; rintro e w' ⟨rfl, rfl⟩)
    | (go_at_call 90; refine (low_any _ _ (by assumption) (by assumption) _).mono ?_; rintro e w' ⟨rfl, rfl⟩)
    | (go_at_call 185; refine (c49 wd _ _ x0 y0 _).mono ?_; rintro e w' ⟨rfl, rfl⟩))
  go_ret2
  exact ⟨rfl, asks_gr wd _⟩
set_option maxHeartbeats 1000000 in
theorem asks3 (wd : Bool) (a b : Int) (ha : 0 ≤ a ∧ a ≤ 18446744073709551615) (hb : 0 ≤ b ∧ b ≤ 18446744073709551615) (w : World) : Calls Tryz.prog 35 #[.int .u8 3, .bool wd, .int .u64 a, .int .u64 b] w fun e w' => e = .returned (.tuple #[.bool (asksV wd 3 a b), .int .i64 0]) ∧ Gr w w' := by
  have hl := qlook3 wd w
  have hz : ∀ n, ((asksW wd w).drewN n).cell? ⟨w.heap.size, 0, none⟩ = some (.int .i64 (sz wd)) := fun n => asks_cell wd w n
  have x0 := low_bd wd a
  have y0 := low_bd wd b
  obtain ⟨a0, a1⟩ := ha
  obtain ⟨b0, b1⟩ := hb
  go_enter Tryz.func35, Tryz.ntmps35
  go_wp2_with (first
    | (go_at_call 88; refine (sizeOf_any wd _).mono ?_; rintro e w' ⟨rfl, rfl⟩)
    | (go_at_call 89; refine (questions_any wd _).mono ?_; rintro e w' ⟨rfl, rfl⟩)
    | (go_at_call 90; refine (low_any _ _ (by assumption) (by assumption) _).mono ?_; rintro e w' ⟨rfl, rfl⟩)
    | (go_at_call 187; refine (c51 wd _ _ x0 y0 _).mono ?_; rintro e w' ⟨rfl, rfl⟩))
  go_ret2
  exact ⟨rfl, asks_gr wd _⟩
set_option maxHeartbeats 1000000 in
theorem asks4 (wd : Bool) (a b : Int) (ha : 0 ≤ a ∧ a ≤ 18446744073709551615) (hb : 0 ≤ b ∧ b ≤ 18446744073709551615) (w : World) : Calls Tryz.prog 35 #[.int .u8 4, .bool wd, .int .u64 a, .int .u64 b] w fun e w' => e = .returned (.tuple #[.bool (asksV wd 4 a b), .int .i64 0]) ∧ Gr w w' := by
  have hl := qlook4 wd w
  have hz : ∀ n, ((asksW wd w).drewN n).cell? ⟨w.heap.size, 0, none⟩ = some (.int .i64 (sz wd)) := fun n => asks_cell wd w n
  have x0 := low_bd wd a
  have y0 := low_bd wd b
  obtain ⟨a0, a1⟩ := ha
  obtain ⟨b0, b1⟩ := hb
  go_enter Tryz.func35, Tryz.ntmps35
  go_wp2_with (first
    | (go_at_call 88; refine (sizeOf_any wd _).mono ?_; rintro e w' ⟨rfl, rfl⟩)
    | (go_at_call 89; refine (questions_any wd _).mono ?_; rintro e w' ⟨rfl, rfl⟩)
    | (go_at_call 90; refine (low_any _ _ (by assumption) (by assumption) _).mono ?_; rintro e w' ⟨rfl, rfl⟩)
    | (go_at_call 184; refine (c48 wd _ _ x0 y0 _).mono ?_; rintro e w' ⟨rfl, rfl⟩))
  go_ret2
  exact ⟨rfl, asks_gr wd _⟩
set_option maxHeartbeats 1000000 in
theorem asks5 (wd : Bool) (a b : Int) (ha : 0 ≤ a ∧ a ≤ 18446744073709551615) (hb : 0 ≤ b ∧ b ≤ 18446744073709551615) (w : World) : Calls Tryz.prog 35 #[.int .u8 5, .bool wd, .int .u64 a, .int .u64 b] w fun e w' => e = .returned (.tuple #[.bool (asksV wd 5 a b), .int .i64 0]) ∧ Gr w w' := by
  have hl := qlook5 wd w
  have hz : ∀ n, ((asksW wd w).drewN n).cell? ⟨w.heap.size, 0, none⟩ = some (.int .i64 (sz wd)) := fun n => asks_cell wd w n
  have x0 := low_bd wd a
  have y0 := low_bd wd b
  obtain ⟨a0, a1⟩ := ha
  obtain ⟨b0, b1⟩ := hb
  go_enter Tryz.func35, Tryz.ntmps35
  go_wp2_with (first
    | (go_at_call 88; refine (sizeOf_any wd _).mono ?_; rintro e w' ⟨rfl, rfl⟩)
    | (go_at_call 89; refine (questions_any wd _).mono ?_; rintro e w' ⟨rfl, rfl⟩)
    | (go_at_call 90; refine (low_any _ _ (by assumption) (by assumption) _).mono ?_; rintro e w' ⟨rfl, rfl⟩)
    | (go_at_call 183; refine (c47 wd _ _ x0 y0 _).mono ?_; rintro e w' ⟨rfl, rfl⟩))
  go_ret2
  exact ⟨rfl, asks_gr wd _⟩
set_option maxHeartbeats 1000000 in
theorem asks6 (wd : Bool) (a b : Int) (ha : 0 ≤ a ∧ a ≤ 18446744073709551615) (hb : 0 ≤ b ∧ b ≤ 18446744073709551615) (w : World) : Calls Tryz.prog 35 #[.int .u8 6, .bool wd, .int .u64 a, .int .u64 b] w fun e w' => e = .returned (.tuple #[.bool (asksV wd 6 a b), .int .i64 0]) ∧ Gr w w' := by
  have hl := qlook6 wd w
  have hz : ∀ n, ((asksW wd w).drewN n).cell? ⟨w.heap.size, 0, none⟩ = some (.int .i64 (sz wd)) := fun n => asks_cell wd w n
  have x0 := low_bd wd a
  have y0 := low_bd wd b
  obtain ⟨a0, a1⟩ := ha
  obtain ⟨b0, b1⟩ := hb
  go_enter Tryz.func35, Tryz.ntmps35
  go_wp2_with (first
    | (go_at_call 88; refine (sizeOf_any wd _).mono ?_; rintro e w' ⟨rfl, rfl⟩)
    | (go_at_call 89; refine (questions_any wd _).mono ?_; rintro e w' ⟨rfl, rfl⟩)
    | (go_at_call 90; refine (low_any _ _ (by assumption) (by assumption) _).mono ?_; rintro e w' ⟨rfl, rfl⟩)
    | (go_at_call 190; refine (c54 wd _ _ _ _ x0 y0 _ hz (asks_sign wd _)).mono ?_; rintro e w' ⟨rfl, nd, rfl⟩))
  go_ret2
  exact ⟨rfl, (asks_gr wd _).trans (gr_drewN _ _)⟩
set_option maxHeartbeats 1000000 in
theorem asks7 (wd : Bool) (a b : Int) (ha : 0 ≤ a ∧ a ≤ 18446744073709551615) (hb : 0 ≤ b ∧ b ≤ 18446744073709551615) (w : World) : Calls Tryz.prog 35 #[.int .u8 7, .bool wd, .int .u64 a, .int .u64 b] w fun e w' => e = .returned (.tuple #[.bool (asksV wd 7 a b), .int .i64 0]) ∧ Gr w w' := by
  have hl := qlook7 wd w
  have hz : ∀ n, ((asksW wd w).drewN n).cell? ⟨w.heap.size, 0, none⟩ = some (.int .i64 (sz wd)) := fun n => asks_cell wd w n
  have x0 := low_bd wd a
  have y0 := low_bd wd b
  obtain ⟨a0, a1⟩ := ha
  obtain ⟨b0, b1⟩ := hb
  go_enter Tryz.func35, Tryz.ntmps35
  go_wp2_with (first
    | (go_at_call 88; refine (sizeOf_any wd _).mono ?_; rintro e w' ⟨rfl, rfl⟩)
    | (go_at_call 89; refine (questions_any wd _).mono ?_; rintro e w' ⟨rfl, rfl⟩)
    | (go_at_call 90; refine (low_any _ _ (by assumption) (by assumption) _).mono ?_; rintro e w' ⟨rfl, rfl⟩)
    | (go_at_call 192; refine (c56 wd _ _ _ _ x0 y0 _ hz (asks_sign wd _)).mono ?_; rintro e w' ⟨rfl, nd, rfl⟩))
  go_ret2
  exact ⟨rfl, (asks_gr wd _).trans (gr_drewN _ _)⟩
set_option maxHeartbeats 1000000 in
theorem asks10 (wd : Bool) (a b : Int) (ha : 0 ≤ a ∧ a ≤ 18446744073709551615) (hb : 0 ≤ b ∧ b ≤ 18446744073709551615) (w : World) : Calls Tryz.prog 35 #[.int .u8 10, .bool wd, .int .u64 a, .int .u64 b] w fun e w' => e = .returned (.tuple #[.bool (asksV wd 10 a b), .int .i64 0]) ∧ Gr w w' := by
  have hl := qlook10 wd w
  have hz : ∀ n, ((asksW wd w).drewN n).cell? ⟨w.heap.size, 0, none⟩ = some (.int .i64 (sz wd)) := fun n => asks_cell wd w n
  have x0 := low_bd wd a
  have y0 := low_bd wd b
  obtain ⟨a0, a1⟩ := ha
  obtain ⟨b0, b1⟩ := hb
  go_enter Tryz.func35, Tryz.ntmps35
  go_wp2_with (first
    | (go_at_call 88; refine (sizeOf_any wd _).mono ?_; rintro e w' ⟨rfl, rfl⟩)
    | (go_at_call 89; refine (questions_any wd _).mono ?_; rintro e w' ⟨rfl, rfl⟩)
    | (go_at_call 90; refine (low_any _ _ (by assumption) (by assumption) _).mono ?_; rintro e w' ⟨rfl, rfl⟩)
    | (go_at_call 188; refine (c52 wd _ _ x0 y0 _).mono ?_; rintro e w' ⟨rfl, rfl⟩))
  go_ret2
  exact ⟨rfl, asks_gr wd _⟩
set_option maxHeartbeats 1000000 in
theorem asks11 (wd : Bool) (a b : Int) (ha : 0 ≤ a ∧ a ≤ 18446744073709551615) (hb : 0 ≤ b ∧ b ≤ 18446744073709551615) (w : World) : Calls Tryz.prog 35 #[.int .u8 11, .bool wd, .int .u64 a, .int .u64 b] w fun e w' => e = .returned (.tuple #[.bool (asksV wd 11 a b), .int .i64 0]) ∧ Gr w w' := by
  have hl := qlook11 wd w
  have hz : ∀ n, ((asksW wd w).drewN n).cell? ⟨w.heap.size, 0, none⟩ = some (.int .i64 (sz wd)) := fun n => asks_cell wd w n
  have x0 := low_bd wd a
  have y0 := low_bd wd b
  obtain ⟨a0, a1⟩ := ha
  obtain ⟨b0, b1⟩ := hb
  go_enter Tryz.func35, Tryz.ntmps35
  go_wp2_with (first
    | (go_at_call 88; refine (sizeOf_any wd _).mono ?_; rintro e w' ⟨rfl, rfl⟩)
    | (go_at_call 89; refine (questions_any wd _).mono ?_; rintro e w' ⟨rfl, rfl⟩)
    | (go_at_call 90; refine (low_any _ _ (by assumption) (by assumption) _).mono ?_; rintro e w' ⟨rfl, rfl⟩)
    | (go_at_call 189; refine (c53 wd _ _ x0 y0 _).mono ?_; rintro e w' ⟨rfl, rfl⟩))
  go_ret2
  exact ⟨rfl, asks_gr wd _⟩
set_option maxHeartbeats 1000000 in
theorem asks12 (wd : Bool) (a b : Int) (ha : 0 ≤ a ∧ a ≤ 18446744073709551615) (hb : 0 ≤ b ∧ b ≤ 18446744073709551615) (w : World) : Calls Tryz.prog 35 #[.int .u8 12, .bool wd, .int .u64 a, .int .u64 b] w fun e w' => e = .returned (.tuple #[.bool (asksV wd 12 a b), .int .i64 0]) ∧ Gr w w' := by
  have hl := qlook12 wd w
  have hz : ∀ n, ((asksW wd w).drewN n).cell? ⟨w.heap.size, 0, none⟩ = some (.int .i64 (sz wd)) := fun n => asks_cell wd w n
  have x0 := low_bd wd a
  have y0 := low_bd wd b
  obtain ⟨a0, a1⟩ := ha
  obtain ⟨b0, b1⟩ := hb
  go_enter Tryz.func35, Tryz.ntmps35
  go_wp2_with (first
    | (go_at_call 88; refine (sizeOf_any wd _).mono ?_; rintro e w' ⟨rfl, rfl⟩)
    | (go_at_call 89; refine (questions_any wd _).mono ?_; rintro e w' ⟨rfl, rfl⟩)
    | (go_at_call 90; refine (low_any _ _ (by assumption) (by assumption) _).mono ?_; rintro e w' ⟨rfl, rfl⟩)
    | (go_at_call 193; refine (c57 wd _ _ _ _ x0 y0 _ hz (asks_sign wd _)).mono ?_; rintro e w' ⟨rfl, nd, rfl⟩))
  go_ret2
  exact ⟨rfl, (asks_gr wd _).trans (gr_drewN _ _)⟩
set_option maxHeartbeats 1000000 in
theorem asks13 (wd : Bool) (a b : Int) (ha : 0 ≤ a ∧ a ≤ 18446744073709551615) (hb : 0 ≤ b ∧ b ≤ 18446744073709551615) (w : World) : Calls Tryz.prog 35 #[.int .u8 13, .bool wd, .int .u64 a, .int .u64 b] w fun e w' => e = .returned (.tuple #[.bool (asksV wd 13 a b), .int .i64 0]) ∧ Gr w w' := by
  have hl := qlook13 wd w
  have hz : ∀ n, ((asksW wd w).drewN n).cell? ⟨w.heap.size, 0, none⟩ = some (.int .i64 (sz wd)) := fun n => asks_cell wd w n
  have x0 := low_bd wd a
  have y0 := low_bd wd b
  obtain ⟨a0, a1⟩ := ha
  obtain ⟨b0, b1⟩ := hb
  go_enter Tryz.func35, Tryz.ntmps35
  go_wp2_with (first
    | (go_at_call 88; refine (sizeOf_any wd _).mono ?_; rintro e w' ⟨rfl, rfl⟩)
    | (go_at_call 89; refine (questions_any wd _).mono ?_; rintro e w' ⟨rfl, rfl⟩)
    | (go_at_call 90; refine (low_any _ _ (by assumption) (by assumption) _).mono ?_; rintro e w' ⟨rfl, rfl⟩)
    | (go_at_call 194; refine (c58 wd _ _ _ _ x0 y0 _ hz (asks_sign wd _)).mono ?_; rintro e w' ⟨rfl, nd, rfl⟩))
  go_ret2
  exact ⟨rfl, (asks_gr wd _).trans (gr_drewN _ _)⟩

set_option maxHeartbeats 1000000 in
theorem asks_no (wd : Bool) (c a b : Int) (hc : c = 8 ∨ c = 9 ∨ 14 ≤ c) (w : World) : Calls Tryz.prog 35 #[.int .u8 c, .bool wd, .int .u64 a, .int .u64 b] w fun e w' => e = .returned (.tuple #[.bool false, .int .i64 20]) ∧ Gr w w' := by
  have hl := qlook_no wd w c (by omega)
  clear hc
  go_enter Tryz.func35, Tryz.ntmps35
  go_wp2_with (first
    | (go_at_call 88; refine (sizeOf_any wd _).mono ?_; rintro e w' ⟨rfl, rfl⟩)
    | (go_at_call 89; refine (questions_any wd _).mono ?_; rintro e w' ⟨rfl, rfl⟩))
  go_ret2
  exact ⟨rfl, asks_gr wd _⟩

theorem asks_any (wd : Bool) (c a b : Int) (hc : 0 ≤ c) (ha : 0 ≤ a ∧ a ≤ 18446744073709551615) (hb : 0 ≤ b ∧ b ≤ 18446744073709551615) (w : World) : Calls Tryz.prog 35 #[.int .u8 c, .bool wd, .int .u64 a, .int .u64 b] w fun e w' => e = .returned (.tuple #[.bool (asksV wd c a b), .int .i64 (errA c)]) ∧ Gr w w' := by
  by_cases h : c = 8 ∨ c = 9 ∨ 14 ≤ c
  · have hn : asks c = false := by simp [asks]; omega
    rw [asksV, errA, hn]
    exact asks_no wd c a b h w
  · rcases (by omega : c = 0 ∨ c = 1 ∨ c = 2 ∨ c = 3 ∨ c = 4 ∨ c = 5 ∨ c = 6 ∨ c = 7 ∨ c = 10 ∨ c = 11 ∨ c = 12 ∨ c = 13) with rfl | rfl | rfl | rfl | rfl | rfl | rfl | rfl | rfl | rfl | rfl | rfl
    · exact asks0 wd a b ha hb w
    · exact asks1 wd a b ha hb w
    · exact asks2 wd a b ha hb w
    · exact asks3 wd a b ha hb w
    · exact asks4 wd a b ha hb w
    · exact asks5 wd a b ha hb w
    · exact asks6 wd a b ha hb w
    · exact asks7 wd a b ha hb w
    · exact asks10 wd a b ha hb w
    · exact asks11 wd a b ha hb w
    · exact asks12 wd a b ha hb w
    · exact asks13 wd a b ha hb w
end Go.Proofs.YtcbcijibgpaipaaGreat.Wd
end
section
namespace Go.Proofs.YtcbcijibgpaipaaGreat.Wd
open Go.ChangeShapes Go.WideShapes Go.ChangeAt Go.RowKit
set_option linter.unusedVariables false
set_option maxRecDepth 20000

end Go.Proofs.YtcbcijibgpaipaaGreat.Wd
end
section
namespace Go.Proofs.YtcbcijibgpaipaaGreat.Wd
open Go.ChangeShapes Go.WideShapes Go.ChangeAt Go.RowKit
set_option linter.unusedVariables false
set_option maxRecDepth 20000

def turnV (c : Int) : Int := if c = 1 then 1 else if c = 2 then 10 else if c = 3 then 11 else if c = 4 then 4 else if c = 5 then 5 else if c = 6 then 12 else if c = 7 then 13 else if c = 10 then 2 else if c = 11 then 3 else if c = 12 then 6 else if c = 13 then 7 else 0
def isturn (c : Int) : Bool := if c = 1 then true else if c = 2 then true else if c = 3 then true else if c = 4 then true else if c = 5 then true else if c = 6 then true else if c = 7 then true else if c = 10 then true else if c = 11 then true else if c = 12 then true else if c = 13 then true else false
def otherV (c : Int) : Int := if c = 1 then 5 else if c = 2 then 11 else if c = 3 then 10 else if c = 5 then 1 else if c = 6 then 13 else if c = 7 then 12 else if c = 10 then 3 else if c = 11 then 2 else if c = 12 then 7 else if c = 13 then 6 else 0
def isother (c : Int) : Bool := if c = 1 then true else if c = 2 then true else if c = 3 then true else if c = 5 then true else if c = 6 then true else if c = 7 then true else if c = 10 then true else if c = 11 then true else if c = 12 then true else if c = 13 then true else false

theorem turn1 (w : World) : Calls Tryz.prog 36 #[.int .u8 1] w fun e w' => e = .returned (.tuple #[.int .u8 (turnV 1), .bool (isturn 1)]) ∧ w' = w := by
  go_enter Tryz.func36, Tryz.ntmps36
  go_wp2
  go_ret2
  exact ⟨rfl, rfl⟩
theorem turn2 (w : World) : Calls Tryz.prog 36 #[.int .u8 2] w fun e w' => e = .returned (.tuple #[.int .u8 (turnV 2), .bool (isturn 2)]) ∧ w' = w := by
  go_enter Tryz.func36, Tryz.ntmps36
  go_wp2
  go_ret2
  exact ⟨rfl, rfl⟩
theorem turn3 (w : World) : Calls Tryz.prog 36 #[.int .u8 3] w fun e w' => e = .returned (.tuple #[.int .u8 (turnV 3), .bool (isturn 3)]) ∧ w' = w := by
  go_enter Tryz.func36, Tryz.ntmps36
  go_wp2
  go_ret2
  exact ⟨rfl, rfl⟩
theorem turn4 (w : World) : Calls Tryz.prog 36 #[.int .u8 4] w fun e w' => e = .returned (.tuple #[.int .u8 (turnV 4), .bool (isturn 4)]) ∧ w' = w := by
  go_enter Tryz.func36, Tryz.ntmps36
  go_wp2
  go_ret2
  exact ⟨rfl, rfl⟩
theorem turn5 (w : World) : Calls Tryz.prog 36 #[.int .u8 5] w fun e w' => e = .returned (.tuple #[.int .u8 (turnV 5), .bool (isturn 5)]) ∧ w' = w := by
  go_enter Tryz.func36, Tryz.ntmps36
  go_wp2
  go_ret2
  exact ⟨rfl, rfl⟩
theorem turn6 (w : World) : Calls Tryz.prog 36 #[.int .u8 6] w fun e w' => e = .returned (.tuple #[.int .u8 (turnV 6), .bool (isturn 6)]) ∧ w' = w := by
  go_enter Tryz.func36, Tryz.ntmps36
  go_wp2
  go_ret2
  exact ⟨rfl, rfl⟩
theorem turn7 (w : World) : Calls Tryz.prog 36 #[.int .u8 7] w fun e w' => e = .returned (.tuple #[.int .u8 (turnV 7), .bool (isturn 7)]) ∧ w' = w := by
  go_enter Tryz.func36, Tryz.ntmps36
  go_wp2
  go_ret2
  exact ⟨rfl, rfl⟩
theorem turn10 (w : World) : Calls Tryz.prog 36 #[.int .u8 10] w fun e w' => e = .returned (.tuple #[.int .u8 (turnV 10), .bool (isturn 10)]) ∧ w' = w := by
  go_enter Tryz.func36, Tryz.ntmps36
  go_wp2
  go_ret2
  exact ⟨rfl, rfl⟩
theorem turn11 (w : World) : Calls Tryz.prog 36 #[.int .u8 11] w fun e w' => e = .returned (.tuple #[.int .u8 (turnV 11), .bool (isturn 11)]) ∧ w' = w := by
  go_enter Tryz.func36, Tryz.ntmps36
  go_wp2
  go_ret2
  exact ⟨rfl, rfl⟩
theorem turn12 (w : World) : Calls Tryz.prog 36 #[.int .u8 12] w fun e w' => e = .returned (.tuple #[.int .u8 (turnV 12), .bool (isturn 12)]) ∧ w' = w := by
  go_enter Tryz.func36, Tryz.ntmps36
  go_wp2
  go_ret2
  exact ⟨rfl, rfl⟩
theorem turn13 (w : World) : Calls Tryz.prog 36 #[.int .u8 13] w fun e w' => e = .returned (.tuple #[.int .u8 (turnV 13), .bool (isturn 13)]) ∧ w' = w := by
  go_enter Tryz.func36, Tryz.ntmps36
  go_wp2
  go_ret2
  exact ⟨rfl, rfl⟩
theorem turn_no (c : Int) (hc : c ≠ 1 ∧ c ≠ 2 ∧ c ≠ 3 ∧ c ≠ 4 ∧ c ≠ 5 ∧ c ≠ 6 ∧ c ≠ 7 ∧ c ≠ 10 ∧ c ≠ 11 ∧ c ≠ 12 ∧ c ≠ 13) (w : World) : Calls Tryz.prog 36 #[.int .u8 c] w fun e w' => e = .returned (.tuple #[.int .u8 0, .bool false]) ∧ w' = w := by
  have n1 : (c == 1) = false := by simp; omega
  have n2 : (c == 2) = false := by simp; omega
  have n3 : (c == 3) = false := by simp; omega
  have n4 : (c == 4) = false := by simp; omega
  have n5 : (c == 5) = false := by simp; omega
  have n6 : (c == 6) = false := by simp; omega
  have n7 : (c == 7) = false := by simp; omega
  have n10 : (c == 10) = false := by simp; omega
  have n11 : (c == 11) = false := by simp; omega
  have n12 : (c == 12) = false := by simp; omega
  have n13 : (c == 13) = false := by simp; omega
  clear hc
  go_enter Tryz.func36, Tryz.ntmps36
  go_wp2
  go_ret2
  exact ⟨rfl, rfl⟩
theorem turn_any (c : Int) (w : World) : Calls Tryz.prog 36 #[.int .u8 c] w fun e w' => e = .returned (.tuple #[.int .u8 (turnV c), .bool (isturn c)]) ∧ w' = w := by
  by_cases h : c ≠ 1 ∧ c ≠ 2 ∧ c ≠ 3 ∧ c ≠ 4 ∧ c ≠ 5 ∧ c ≠ 6 ∧ c ≠ 7 ∧ c ≠ 10 ∧ c ≠ 11 ∧ c ≠ 12 ∧ c ≠ 13
  · rw [show turnV c = 0 by simp [turnV, h], show isturn c = false by simp [isturn, h]]
    exact turn_no c h w
  · rcases (by omega : c = 1 ∨ c = 2 ∨ c = 3 ∨ c = 4 ∨ c = 5 ∨ c = 6 ∨ c = 7 ∨ c = 10 ∨ c = 11 ∨ c = 12 ∨ c = 13) with rfl | rfl | rfl | rfl | rfl | rfl | rfl | rfl | rfl | rfl | rfl
    · exact turn1 w
    · exact turn2 w
    · exact turn3 w
    · exact turn4 w
    · exact turn5 w
    · exact turn6 w
    · exact turn7 w
    · exact turn10 w
    · exact turn11 w
    · exact turn12 w
    · exact turn13 w
theorem other1 (w : World) : Calls Tryz.prog 37 #[.int .u8 1] w fun e w' => e = .returned (.tuple #[.int .u8 (otherV 1), .bool (isother 1)]) ∧ w' = w := by
  go_enter Tryz.func37, Tryz.ntmps37
  go_wp2
  go_ret2
  exact ⟨rfl, rfl⟩
theorem other2 (w : World) : Calls Tryz.prog 37 #[.int .u8 2] w fun e w' => e = .returned (.tuple #[.int .u8 (otherV 2), .bool (isother 2)]) ∧ w' = w := by
  go_enter Tryz.func37, Tryz.ntmps37
  go_wp2
  go_ret2
  exact ⟨rfl, rfl⟩
theorem other3 (w : World) : Calls Tryz.prog 37 #[.int .u8 3] w fun e w' => e = .returned (.tuple #[.int .u8 (otherV 3), .bool (isother 3)]) ∧ w' = w := by
  go_enter Tryz.func37, Tryz.ntmps37
  go_wp2
  go_ret2
  exact ⟨rfl, rfl⟩
theorem other5 (w : World) : Calls Tryz.prog 37 #[.int .u8 5] w fun e w' => e = .returned (.tuple #[.int .u8 (otherV 5), .bool (isother 5)]) ∧ w' = w := by
  go_enter Tryz.func37, Tryz.ntmps37
  go_wp2
  go_ret2
  exact ⟨rfl, rfl⟩
theorem other6 (w : World) : Calls Tryz.prog 37 #[.int .u8 6] w fun e w' => e = .returned (.tuple #[.int .u8 (otherV 6), .bool (isother 6)]) ∧ w' = w := by
  go_enter Tryz.func37, Tryz.ntmps37
  go_wp2
  go_ret2
  exact ⟨rfl, rfl⟩
theorem other7 (w : World) : Calls Tryz.prog 37 #[.int .u8 7] w fun e w' => e = .returned (.tuple #[.int .u8 (otherV 7), .bool (isother 7)]) ∧ w' = w := by
  go_enter Tryz.func37, Tryz.ntmps37
  go_wp2
  go_ret2
  exact ⟨rfl, rfl⟩
theorem other10 (w : World) : Calls Tryz.prog 37 #[.int .u8 10] w fun e w' => e = .returned (.tuple #[.int .u8 (otherV 10), .bool (isother 10)]) ∧ w' = w := by
  go_enter Tryz.func37, Tryz.ntmps37
  go_wp2
  go_ret2
  exact ⟨rfl, rfl⟩
theorem other11 (w : World) : Calls Tryz.prog 37 #[.int .u8 11] w fun e w' => e = .returned (.tuple #[.int .u8 (otherV 11), .bool (isother 11)]) ∧ w' = w := by
  go_enter Tryz.func37, Tryz.ntmps37
  go_wp2
  go_ret2
  exact ⟨rfl, rfl⟩
theorem other12 (w : World) : Calls Tryz.prog 37 #[.int .u8 12] w fun e w' => e = .returned (.tuple #[.int .u8 (otherV 12), .bool (isother 12)]) ∧ w' = w := by
  go_enter Tryz.func37, Tryz.ntmps37
  go_wp2
  go_ret2
  exact ⟨rfl, rfl⟩
theorem other13 (w : World) : Calls Tryz.prog 37 #[.int .u8 13] w fun e w' => e = .returned (.tuple #[.int .u8 (otherV 13), .bool (isother 13)]) ∧ w' = w := by
  go_enter Tryz.func37, Tryz.ntmps37
  go_wp2
  go_ret2
  exact ⟨rfl, rfl⟩
theorem other_no (c : Int) (hc : c ≠ 1 ∧ c ≠ 2 ∧ c ≠ 3 ∧ c ≠ 5 ∧ c ≠ 6 ∧ c ≠ 7 ∧ c ≠ 10 ∧ c ≠ 11 ∧ c ≠ 12 ∧ c ≠ 13) (w : World) : Calls Tryz.prog 37 #[.int .u8 c] w fun e w' => e = .returned (.tuple #[.int .u8 0, .bool false]) ∧ w' = w := by
  have n1 : (c == 1) = false := by simp; omega
  have n2 : (c == 2) = false := by simp; omega
  have n3 : (c == 3) = false := by simp; omega
  have n5 : (c == 5) = false := by simp; omega
  have n6 : (c == 6) = false := by simp; omega
  have n7 : (c == 7) = false := by simp; omega
  have n10 : (c == 10) = false := by simp; omega
  have n11 : (c == 11) = false := by simp; omega
  have n12 : (c == 12) = false := by simp; omega
  have n13 : (c == 13) = false := by simp; omega
  clear hc
  go_enter Tryz.func37, Tryz.ntmps37
  go_wp2
  go_ret2
  exact ⟨rfl, rfl⟩
theorem other_any (c : Int) (w : World) : Calls Tryz.prog 37 #[.int .u8 c] w fun e w' => e = .returned (.tuple #[.int .u8 (otherV c), .bool (isother c)]) ∧ w' = w := by
  by_cases h : c ≠ 1 ∧ c ≠ 2 ∧ c ≠ 3 ∧ c ≠ 5 ∧ c ≠ 6 ∧ c ≠ 7 ∧ c ≠ 10 ∧ c ≠ 11 ∧ c ≠ 12 ∧ c ≠ 13
  · rw [show otherV c = 0 by simp [otherV, h], show isother c = false by simp [isother, h]]
    exact other_no c h w
  · rcases (by omega : c = 1 ∨ c = 2 ∨ c = 3 ∨ c = 5 ∨ c = 6 ∨ c = 7 ∨ c = 10 ∨ c = 11 ∨ c = 12 ∨ c = 13) with rfl | rfl | rfl | rfl | rfl | rfl | rfl | rfl | rfl | rfl
    · exact other1 w
    · exact other2 w
    · exact other3 w
    · exact other5 w
    · exact other6 w
    · exact other7 w
    · exact other10 w
    · exact other11 w
    · exact other12 w
    · exact other13 w
theorem bd_u64 {a : Int} (h : (Lit.int .u64 a).wf = true) : 0 ≤ a ∧ a ≤ 18446744073709551615 := by
  simpa [Lit.wf, IntKind.min, IntKind.max, IntKind.signed, IntKind.bits] using h
end Go.Proofs.YtcbcijibgpaipaaGreat.Wd
end
