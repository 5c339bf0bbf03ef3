/- Towards the statements of package alu (layer 2): the tables of closures that deeds and questions make, what they have at each code; contracts of sizeOf, deeds and questions, for both sizes. -/
import Derived.Test.YtmngficbohlnhaaSign
import Derived.Carry
import Derived.MapKept
import Derived.Laws.EntriesVeiled
namespace Go.Proofs.Ytmngficbohlnhaa
open Go.ChangeShapes Go.WideShapes Go.ChangeAt Go.RowKit
set_option linter.unusedVariables false

def keyNe (k : Int) (e : MapEntry) : Bool := match e.key with | .int .u8 a => !(k == a) | _ => false

theorem find_none (k : Int) : ∀ (l : List MapEntry) (i : Nat), l.all (keyNe k) = true → Instr.findNow (.int .u8) (.int .u8 k) l i = some none
  | [], _, _ => rfl
  | e :: l, i, h => by
    simp only [List.all_cons, Bool.and_eq_true] at h
    obtain ⟨h1, h2⟩ := h
    obtain ⟨key, val, born⟩ := e
    unfold keyNe at h1
    split at h1
    · rename_i a hk
      simp only at hk
      subst hk
      simp only [Bool.not_eq_true'] at h1
      simp [Instr.findNow, Instr.sameNow, h1, find_none k l (i + 1) h2]
    · cases h1

theorem run_update {P : Program} {t k e : TypeId} (ht : P.underlying t = some (.map k e)) (hk : P.underlying k = some (.int .u8)) (W : World) (g n : Nat) (l : List MapEntry) (c : Int) (v : Value) (hg : g = W.heap.size) (hl : l.all (keyNe c) = true) :
    (Instr.mapUpdate t (.map (some g)) (.int .u8 c) v).run P (W.alloc (.map l.toArray n)) = .ok () (W.alloc (.map (l ++ [MapEntry.mk (.int .u8 c) v n]).toArray (n + 1))) := by
  subst hg
  have hb : (W.alloc (.map l.toArray n)).heap[W.heap.size]? = some (.map l.toArray n) := (MapKept.heap_alloc W _).1
  have hc : (Instr.checkKey false 10000 k (.int .u8 c)).run P (W.alloc (.map l.toArray n)) = .ok () (W.alloc (.map l.toArray n)) := MapKept.run_checkKey hk (by simp [MapKept.IsKey]) false 9999
  have hf := MapKept.run_findKey (w := W.alloc (.map l.toArray n)) hk (find_none c l 0 hl)
  have hs : ∀ o : Obj, ({ W.alloc (.map l.toArray n) with heap := (W.alloc (.map l.toArray n)).heap.setIfInBounds W.heap.size o } : World) = W.alloc o := fun o => by
    have e1 : (W.alloc (.map l.toArray n)).heap = W.heap.push (.map l.toArray n) := rfl
    have e2 : (W.heap.push (.map l.toArray n)).setIfInBounds W.heap.size o = W.heap.push o := by
      apply Array.ext_getElem?
      intro i
      by_cases hi : W.heap.size = i
      · subst hi; simp
      · rw [Array.getElem?_setIfInBounds_ne hi, Array.getElem?_push, Array.getElem?_push, if_neg (Ne.symm hi), if_neg (Ne.symm hi)]
    rw [e1, e2]; rfl
  simp [Instr.mapUpdate, run_underlying ht, MapKept.run_getObj_map hb, hc, hf, MapKept.run_setObj_map _ hb, Result.andThen]
  exact hs _

theorem find_at (k : Int) (v : Value) (n : Nat) : ∀ (l l' : List MapEntry) (i : Nat), l.all (keyNe k) = true → Instr.findNow (.int .u8) (.int .u8 k) (l ++ MapEntry.mk (.int .u8 k) v n :: l') i = some (some (i + l.length, v))
  | [], l', i, _ => by simp [Instr.findNow, Instr.sameNow]
  | e :: l, l', i, h => by
    simp only [List.all_cons, Bool.and_eq_true] at h
    obtain ⟨h1, h2⟩ := h
    obtain ⟨key, val, born⟩ := e
    unfold keyNe at h1
    split at h1
    · rename_i a hk
      simp only at hk
      subst hk
      simp only [Bool.not_eq_true'] at h1
      simp only [List.cons_append, Instr.findNow, Instr.sameNow, h1, if_true, find_at k v n l l' (i + 1) h2, List.length_cons]
      simp only [Option.some.injEq, Prod.mk.injEq, and_true]
      omega
    · cases h1

theorem run_look_yes {P : Program} {t k e : TypeId} (ht : P.underlying t = some (.map k e)) (hk : P.underlying k = some (.int .u8)) {w : World} {g n m : Nat} (l l' : List MapEntry) (c : Int) (v : Value) (hb : w.heap[g]? = some (.map (l ++ MapEntry.mk (.int .u8 c) v m :: l').toArray n)) (hl : l.all (keyNe c) = true) :
    (Instr.lookup t (.map (some g)) (.int .u8 c) true).run P w = .ok (.tuple #[v, .bool true]) w := by
  have hc : ∀ q, (Instr.checkKey q 10000 k (.int .u8 c)).run P w = .ok () w := fun q => MapKept.run_checkKey hk (by simp [MapKept.IsKey]) q 9999
  have hf := MapKept.run_findKey (P := P) (w := w) hk (find_at c v m l l' 0 hl)
  simp [Instr.lookup, run_underlying ht, MapKept.run_getObj_map hb, hc, hf, Result.andThen]

theorem run_look_no {P : Program} {t k e : TypeId} (ht : P.underlying t = some (.map k e)) (hk : P.underlying k = some (.int .u8)) {w : World} {g n : Nat} (l : List MapEntry) (c : Int) (z : Value) (hb : w.heap[g]? = some (.map l.toArray n)) (hz : (zeroValue e).run P w = .ok z w) (hl : l.all (keyNe c) = true) :
    (Instr.lookup t (.map (some g)) (.int .u8 c) true).run P w = .ok (.tuple #[z, .bool false]) w := by
  have hc : ∀ q, (Instr.checkKey q 10000 k (.int .u8 c)).run P w = .ok () w := fun q => MapKept.run_checkKey hk (by simp [MapKept.IsKey]) q 9999
  have hf := MapKept.run_findKey (P := P) (w := w) hk (find_none c l 0 hl)
  simp [Instr.lookup, run_underlying ht, MapKept.run_getObj_map hb, hc, hf, hz, Result.andThen]

abbrev fv (k : Nat) (cap : List Nat) : Value := .func (.func k) #[] (cap.map fun p => .pointer (some ⟨p, 0, none⟩)).toArray

def sz (wd : Bool) : Int := if wd then 8 else 4

theorem sizeOf_any (wd : Bool) (w : World) : Calls Try.prog 18 #[.bool wd] w fun e w' => e = .returned (.int .i64 (sz wd)) ∧ w' = w := by
  cases wd
  all_goals
    go_enter Try.func18, Try.ntmps18
    go_wp2
    go_ret
    exact ⟨rfl, rfl⟩

theorem dup0 (W : World) (g : Nat) (v0 : Value) (hg : g = W.heap.size) : (Instr.mapUpdate 45 (.map (some g)) (.int .u8 0) v0).run Try.prog (W.alloc (.map #[] 0)) = .ok () (W.alloc (.map #[⟨.int .u8 0, v0, 0⟩] 1)) :=
  run_update Try.underlying45 Try.underlying5 W g 0 [] 0 v0 hg (by rfl)
theorem dup1 (W : World) (g : Nat) (v0 v1 : Value) (hg : g = W.heap.size) : (Instr.mapUpdate 45 (.map (some g)) (.int .u8 1) v1).run Try.prog (W.alloc (.map #[⟨.int .u8 0, v0, 0⟩] 1)) = .ok () (W.alloc (.map #[⟨.int .u8 0, v0, 0⟩, ⟨.int .u8 1, v1, 1⟩] 2)) :=
  run_update Try.underlying45 Try.underlying5 W g 1 [⟨.int .u8 0, v0, 0⟩] 1 v1 hg (by rfl)
theorem dup2 (W : World) (g : Nat) (v0 v1 v2 : Value) (hg : g = W.heap.size) : (Instr.mapUpdate 45 (.map (some g)) (.int .u8 2) v2).run Try.prog (W.alloc (.map #[⟨.int .u8 0, v0, 0⟩, ⟨.int .u8 1, v1, 1⟩] 2)) = .ok () (W.alloc (.map #[⟨.int .u8 0, v0, 0⟩, ⟨.int .u8 1, v1, 1⟩, ⟨.int .u8 2, v2, 2⟩] 3)) :=
  run_update Try.underlying45 Try.underlying5 W g 2 [⟨.int .u8 0, v0, 0⟩, ⟨.int .u8 1, v1, 1⟩] 2 v2 hg (by rfl)
theorem dup3 (W : World) (g : Nat) (v0 v1 v2 v3 : Value) (hg : g = W.heap.size) : (Instr.mapUpdate 45 (.map (some g)) (.int .u8 3) v3).run Try.prog (W.alloc (.map #[⟨.int .u8 0, v0, 0⟩, ⟨.int .u8 1, v1, 1⟩, ⟨.int .u8 2, v2, 2⟩] 3)) = .ok () (W.alloc (.map #[⟨.int .u8 0, v0, 0⟩, ⟨.int .u8 1, v1, 1⟩, ⟨.int .u8 2, v2, 2⟩, ⟨.int .u8 3, v3, 3⟩] 4)) :=
  run_update Try.underlying45 Try.underlying5 W g 3 [⟨.int .u8 0, v0, 0⟩, ⟨.int .u8 1, v1, 1⟩, ⟨.int .u8 2, v2, 2⟩] 3 v3 hg (by rfl)
theorem dup4 (W : World) (g : Nat) (v0 v1 v2 v3 v4 : Value) (hg : g = W.heap.size) : (Instr.mapUpdate 45 (.map (some g)) (.int .u8 9) v4).run Try.prog (W.alloc (.map #[⟨.int .u8 0, v0, 0⟩, ⟨.int .u8 1, v1, 1⟩, ⟨.int .u8 2, v2, 2⟩, ⟨.int .u8 3, v3, 3⟩] 4)) = .ok () (W.alloc (.map #[⟨.int .u8 0, v0, 0⟩, ⟨.int .u8 1, v1, 1⟩, ⟨.int .u8 2, v2, 2⟩, ⟨.int .u8 3, v3, 3⟩, ⟨.int .u8 9, v4, 4⟩] 5)) :=
  run_update Try.underlying45 Try.underlying5 W g 4 [⟨.int .u8 0, v0, 0⟩, ⟨.int .u8 1, v1, 1⟩, ⟨.int .u8 2, v2, 2⟩, ⟨.int .u8 3, v3, 3⟩] 9 v4 hg (by rfl)
theorem dup5 (W : World) (g : Nat) (v0 v1 v2 v3 v4 v5 : Value) (hg : g = W.heap.size) : (Instr.mapUpdate 45 (.map (some g)) (.int .u8 4) v5).run Try.prog (W.alloc (.map #[⟨.int .u8 0, v0, 0⟩, ⟨.int .u8 1, v1, 1⟩, ⟨.int .u8 2, v2, 2⟩, ⟨.int .u8 3, v3, 3⟩, ⟨.int .u8 9, v4, 4⟩] 5)) = .ok () (W.alloc (.map #[⟨.int .u8 0, v0, 0⟩, ⟨.int .u8 1, v1, 1⟩, ⟨.int .u8 2, v2, 2⟩, ⟨.int .u8 3, v3, 3⟩, ⟨.int .u8 9, v4, 4⟩, ⟨.int .u8 4, v5, 5⟩] 6)) :=
  run_update Try.underlying45 Try.underlying5 W g 5 [⟨.int .u8 0, v0, 0⟩, ⟨.int .u8 1, v1, 1⟩, ⟨.int .u8 2, v2, 2⟩, ⟨.int .u8 3, v3, 3⟩, ⟨.int .u8 9, v4, 4⟩] 4 v5 hg (by rfl)
theorem dup6 (W : World) (g : Nat) (v0 v1 v2 v3 v4 v5 v6 : Value) (hg : g = W.heap.size) : (Instr.mapUpdate 45 (.map (some g)) (.int .u8 5) v6).run Try.prog (W.alloc (.map #[⟨.int .u8 0, v0, 0⟩, ⟨.int .u8 1, v1, 1⟩, ⟨.int .u8 2, v2, 2⟩, ⟨.int .u8 3, v3, 3⟩, ⟨.int .u8 9, v4, 4⟩, ⟨.int .u8 4, v5, 5⟩] 6)) = .ok () (W.alloc (.map #[⟨.int .u8 0, v0, 0⟩, ⟨.int .u8 1, v1, 1⟩, ⟨.int .u8 2, v2, 2⟩, ⟨.int .u8 3, v3, 3⟩, ⟨.int .u8 9, v4, 4⟩, ⟨.int .u8 4, v5, 5⟩, ⟨.int .u8 5, v6, 6⟩] 7)) :=
  run_update Try.underlying45 Try.underlying5 W g 6 [⟨.int .u8 0, v0, 0⟩, ⟨.int .u8 1, v1, 1⟩, ⟨.int .u8 2, v2, 2⟩, ⟨.int .u8 3, v3, 3⟩, ⟨.int .u8 9, v4, 4⟩, ⟨.int .u8 4, v5, 5⟩] 5 v6 hg (by rfl)
theorem dup7 (W : World) (g : Nat) (v0 v1 v2 v3 v4 v5 v6 v7 : Value) (hg : g = W.heap.size) : (Instr.mapUpdate 45 (.map (some g)) (.int .u8 10) v7).run Try.prog (W.alloc (.map #[⟨.int .u8 0, v0, 0⟩, ⟨.int .u8 1, v1, 1⟩, ⟨.int .u8 2, v2, 2⟩, ⟨.int .u8 3, v3, 3⟩, ⟨.int .u8 9, v4, 4⟩, ⟨.int .u8 4, v5, 5⟩, ⟨.int .u8 5, v6, 6⟩] 7)) = .ok () (W.alloc (.map #[⟨.int .u8 0, v0, 0⟩, ⟨.int .u8 1, v1, 1⟩, ⟨.int .u8 2, v2, 2⟩, ⟨.int .u8 3, v3, 3⟩, ⟨.int .u8 9, v4, 4⟩, ⟨.int .u8 4, v5, 5⟩, ⟨.int .u8 5, v6, 6⟩, ⟨.int .u8 10, v7, 7⟩] 8)) :=
  run_update Try.underlying45 Try.underlying5 W g 7 [⟨.int .u8 0, v0, 0⟩, ⟨.int .u8 1, v1, 1⟩, ⟨.int .u8 2, v2, 2⟩, ⟨.int .u8 3, v3, 3⟩, ⟨.int .u8 9, v4, 4⟩, ⟨.int .u8 4, v5, 5⟩, ⟨.int .u8 5, v6, 6⟩] 10 v7 hg (by rfl)
theorem dup8 (W : World) (g : Nat) (v0 v1 v2 v3 v4 v5 v6 v7 v8 : Value) (hg : g = W.heap.size) : (Instr.mapUpdate 45 (.map (some g)) (.int .u8 6) v8).run Try.prog (W.alloc (.map #[⟨.int .u8 0, v0, 0⟩, ⟨.int .u8 1, v1, 1⟩, ⟨.int .u8 2, v2, 2⟩, ⟨.int .u8 3, v3, 3⟩, ⟨.int .u8 9, v4, 4⟩, ⟨.int .u8 4, v5, 5⟩, ⟨.int .u8 5, v6, 6⟩, ⟨.int .u8 10, v7, 7⟩] 8)) = .ok () (W.alloc (.map #[⟨.int .u8 0, v0, 0⟩, ⟨.int .u8 1, v1, 1⟩, ⟨.int .u8 2, v2, 2⟩, ⟨.int .u8 3, v3, 3⟩, ⟨.int .u8 9, v4, 4⟩, ⟨.int .u8 4, v5, 5⟩, ⟨.int .u8 5, v6, 6⟩, ⟨.int .u8 10, v7, 7⟩, ⟨.int .u8 6, v8, 8⟩] 9)) :=
  run_update Try.underlying45 Try.underlying5 W g 8 [⟨.int .u8 0, v0, 0⟩, ⟨.int .u8 1, v1, 1⟩, ⟨.int .u8 2, v2, 2⟩, ⟨.int .u8 3, v3, 3⟩, ⟨.int .u8 9, v4, 4⟩, ⟨.int .u8 4, v5, 5⟩, ⟨.int .u8 5, v6, 6⟩, ⟨.int .u8 10, v7, 7⟩] 6 v8 hg (by rfl)
theorem dup9 (W : World) (g : Nat) (v0 v1 v2 v3 v4 v5 v6 v7 v8 v9 : Value) (hg : g = W.heap.size) : (Instr.mapUpdate 45 (.map (some g)) (.int .u8 7) v9).run Try.prog (W.alloc (.map #[⟨.int .u8 0, v0, 0⟩, ⟨.int .u8 1, v1, 1⟩, ⟨.int .u8 2, v2, 2⟩, ⟨.int .u8 3, v3, 3⟩, ⟨.int .u8 9, v4, 4⟩, ⟨.int .u8 4, v5, 5⟩, ⟨.int .u8 5, v6, 6⟩, ⟨.int .u8 10, v7, 7⟩, ⟨.int .u8 6, v8, 8⟩] 9)) = .ok () (W.alloc (.map #[⟨.int .u8 0, v0, 0⟩, ⟨.int .u8 1, v1, 1⟩, ⟨.int .u8 2, v2, 2⟩, ⟨.int .u8 3, v3, 3⟩, ⟨.int .u8 9, v4, 4⟩, ⟨.int .u8 4, v5, 5⟩, ⟨.int .u8 5, v6, 6⟩, ⟨.int .u8 10, v7, 7⟩, ⟨.int .u8 6, v8, 8⟩, ⟨.int .u8 7, v9, 9⟩] 10)) :=
  run_update Try.underlying45 Try.underlying5 W g 9 [⟨.int .u8 0, v0, 0⟩, ⟨.int .u8 1, v1, 1⟩, ⟨.int .u8 2, v2, 2⟩, ⟨.int .u8 3, v3, 3⟩, ⟨.int .u8 9, v4, 4⟩, ⟨.int .u8 4, v5, 5⟩, ⟨.int .u8 5, v6, 6⟩, ⟨.int .u8 10, v7, 7⟩, ⟨.int .u8 6, v8, 8⟩] 7 v9 hg (by rfl)
theorem dup10 (W : World) (g : Nat) (v0 v1 v2 v3 v4 v5 v6 v7 v8 v9 v10 : Value) (hg : g = W.heap.size) : (Instr.mapUpdate 45 (.map (some g)) (.int .u8 12) v10).run Try.prog (W.alloc (.map #[⟨.int .u8 0, v0, 0⟩, ⟨.int .u8 1, v1, 1⟩, ⟨.int .u8 2, v2, 2⟩, ⟨.int .u8 3, v3, 3⟩, ⟨.int .u8 9, v4, 4⟩, ⟨.int .u8 4, v5, 5⟩, ⟨.int .u8 5, v6, 6⟩, ⟨.int .u8 10, v7, 7⟩, ⟨.int .u8 6, v8, 8⟩, ⟨.int .u8 7, v9, 9⟩] 10)) = .ok () (W.alloc (.map #[⟨.int .u8 0, v0, 0⟩, ⟨.int .u8 1, v1, 1⟩, ⟨.int .u8 2, v2, 2⟩, ⟨.int .u8 3, v3, 3⟩, ⟨.int .u8 9, v4, 4⟩, ⟨.int .u8 4, v5, 5⟩, ⟨.int .u8 5, v6, 6⟩, ⟨.int .u8 10, v7, 7⟩, ⟨.int .u8 6, v8, 8⟩, ⟨.int .u8 7, v9, 9⟩, ⟨.int .u8 12, v10, 10⟩] 11)) :=
  run_update Try.underlying45 Try.underlying5 W g 10 [⟨.int .u8 0, v0, 0⟩, ⟨.int .u8 1, v1, 1⟩, ⟨.int .u8 2, v2, 2⟩, ⟨.int .u8 3, v3, 3⟩, ⟨.int .u8 9, v4, 4⟩, ⟨.int .u8 4, v5, 5⟩, ⟨.int .u8 5, v6, 6⟩, ⟨.int .u8 10, v7, 7⟩, ⟨.int .u8 6, v8, 8⟩, ⟨.int .u8 7, v9, 9⟩] 12 v10 hg (by rfl)
theorem dup11 (W : World) (g : Nat) (v0 v1 v2 v3 v4 v5 v6 v7 v8 v9 v10 v11 : Value) (hg : g = W.heap.size) : (Instr.mapUpdate 45 (.map (some g)) (.int .u8 8) v11).run Try.prog (W.alloc (.map #[⟨.int .u8 0, v0, 0⟩, ⟨.int .u8 1, v1, 1⟩, ⟨.int .u8 2, v2, 2⟩, ⟨.int .u8 3, v3, 3⟩, ⟨.int .u8 9, v4, 4⟩, ⟨.int .u8 4, v5, 5⟩, ⟨.int .u8 5, v6, 6⟩, ⟨.int .u8 10, v7, 7⟩, ⟨.int .u8 6, v8, 8⟩, ⟨.int .u8 7, v9, 9⟩, ⟨.int .u8 12, v10, 10⟩] 11)) = .ok () (W.alloc (.map #[⟨.int .u8 0, v0, 0⟩, ⟨.int .u8 1, v1, 1⟩, ⟨.int .u8 2, v2, 2⟩, ⟨.int .u8 3, v3, 3⟩, ⟨.int .u8 9, v4, 4⟩, ⟨.int .u8 4, v5, 5⟩, ⟨.int .u8 5, v6, 6⟩, ⟨.int .u8 10, v7, 7⟩, ⟨.int .u8 6, v8, 8⟩, ⟨.int .u8 7, v9, 9⟩, ⟨.int .u8 12, v10, 10⟩, ⟨.int .u8 8, v11, 11⟩] 12)) :=
  run_update Try.underlying45 Try.underlying5 W g 11 [⟨.int .u8 0, v0, 0⟩, ⟨.int .u8 1, v1, 1⟩, ⟨.int .u8 2, v2, 2⟩, ⟨.int .u8 3, v3, 3⟩, ⟨.int .u8 9, v4, 4⟩, ⟨.int .u8 4, v5, 5⟩, ⟨.int .u8 5, v6, 6⟩, ⟨.int .u8 10, v7, 7⟩, ⟨.int .u8 6, v8, 8⟩, ⟨.int .u8 7, v9, 9⟩, ⟨.int .u8 12, v10, 10⟩] 8 v11 hg (by rfl)
theorem dup12 (W : World) (g : Nat) (v0 v1 v2 v3 v4 v5 v6 v7 v8 v9 v10 v11 v12 : Value) (hg : g = W.heap.size) : (Instr.mapUpdate 45 (.map (some g)) (.int .u8 11) v12).run Try.prog (W.alloc (.map #[⟨.int .u8 0, v0, 0⟩, ⟨.int .u8 1, v1, 1⟩, ⟨.int .u8 2, v2, 2⟩, ⟨.int .u8 3, v3, 3⟩, ⟨.int .u8 9, v4, 4⟩, ⟨.int .u8 4, v5, 5⟩, ⟨.int .u8 5, v6, 6⟩, ⟨.int .u8 10, v7, 7⟩, ⟨.int .u8 6, v8, 8⟩, ⟨.int .u8 7, v9, 9⟩, ⟨.int .u8 12, v10, 10⟩, ⟨.int .u8 8, v11, 11⟩] 12)) = .ok () (W.alloc (.map #[⟨.int .u8 0, v0, 0⟩, ⟨.int .u8 1, v1, 1⟩, ⟨.int .u8 2, v2, 2⟩, ⟨.int .u8 3, v3, 3⟩, ⟨.int .u8 9, v4, 4⟩, ⟨.int .u8 4, v5, 5⟩, ⟨.int .u8 5, v6, 6⟩, ⟨.int .u8 10, v7, 7⟩, ⟨.int .u8 6, v8, 8⟩, ⟨.int .u8 7, v9, 9⟩, ⟨.int .u8 12, v10, 10⟩, ⟨.int .u8 8, v11, 11⟩, ⟨.int .u8 11, v12, 12⟩] 13)) :=
  run_update Try.underlying45 Try.underlying5 W g 12 [⟨.int .u8 0, v0, 0⟩, ⟨.int .u8 1, v1, 1⟩, ⟨.int .u8 2, v2, 2⟩, ⟨.int .u8 3, v3, 3⟩, ⟨.int .u8 9, v4, 4⟩, ⟨.int .u8 4, v5, 5⟩, ⟨.int .u8 5, v6, 6⟩, ⟨.int .u8 10, v7, 7⟩, ⟨.int .u8 6, v8, 8⟩, ⟨.int .u8 7, v9, 9⟩, ⟨.int .u8 12, v10, 10⟩, ⟨.int .u8 8, v11, 11⟩] 11 v12 hg (by rfl)
theorem qup0 (W : World) (g : Nat) (v0 : Value) (hg : g = W.heap.size) : (Instr.mapUpdate 52 (.map (some g)) (.int .u8 0) v0).run Try.prog (W.alloc (.map #[] 0)) = .ok () (W.alloc (.map #[⟨.int .u8 0, v0, 0⟩] 1)) :=
  run_update Try.underlying52 Try.underlying5 W g 0 [] 0 v0 hg (by rfl)
theorem qup1 (W : World) (g : Nat) (v0 v1 : Value) (hg : g = W.heap.size) : (Instr.mapUpdate 52 (.map (some g)) (.int .u8 1) v1).run Try.prog (W.alloc (.map #[⟨.int .u8 0, v0, 0⟩] 1)) = .ok () (W.alloc (.map #[⟨.int .u8 0, v0, 0⟩, ⟨.int .u8 1, v1, 1⟩] 2)) :=
  run_update Try.underlying52 Try.underlying5 W g 1 [⟨.int .u8 0, v0, 0⟩] 1 v1 hg (by rfl)
theorem qup2 (W : World) (g : Nat) (v0 v1 v2 : Value) (hg : g = W.heap.size) : (Instr.mapUpdate 52 (.map (some g)) (.int .u8 5) v2).run Try.prog (W.alloc (.map #[⟨.int .u8 0, v0, 0⟩, ⟨.int .u8 1, v1, 1⟩] 2)) = .ok () (W.alloc (.map #[⟨.int .u8 0, v0, 0⟩, ⟨.int .u8 1, v1, 1⟩, ⟨.int .u8 5, v2, 2⟩] 3)) :=
  run_update Try.underlying52 Try.underlying5 W g 2 [⟨.int .u8 0, v0, 0⟩, ⟨.int .u8 1, v1, 1⟩] 5 v2 hg (by rfl)
theorem qup3 (W : World) (g : Nat) (v0 v1 v2 v3 : Value) (hg : g = W.heap.size) : (Instr.mapUpdate 52 (.map (some g)) (.int .u8 4) v3).run Try.prog (W.alloc (.map #[⟨.int .u8 0, v0, 0⟩, ⟨.int .u8 1, v1, 1⟩, ⟨.int .u8 5, v2, 2⟩] 3)) = .ok () (W.alloc (.map #[⟨.int .u8 0, v0, 0⟩, ⟨.int .u8 1, v1, 1⟩, ⟨.int .u8 5, v2, 2⟩, ⟨.int .u8 4, v3, 3⟩] 4)) :=
  run_update Try.underlying52 Try.underlying5 W g 3 [⟨.int .u8 0, v0, 0⟩, ⟨.int .u8 1, v1, 1⟩, ⟨.int .u8 5, v2, 2⟩] 4 v3 hg (by rfl)
theorem qup4 (W : World) (g : Nat) (v0 v1 v2 v3 v4 : Value) (hg : g = W.heap.size) : (Instr.mapUpdate 52 (.map (some g)) (.int .u8 2) v4).run Try.prog (W.alloc (.map #[⟨.int .u8 0, v0, 0⟩, ⟨.int .u8 1, v1, 1⟩, ⟨.int .u8 5, v2, 2⟩, ⟨.int .u8 4, v3, 3⟩] 4)) = .ok () (W.alloc (.map #[⟨.int .u8 0, v0, 0⟩, ⟨.int .u8 1, v1, 1⟩, ⟨.int .u8 5, v2, 2⟩, ⟨.int .u8 4, v3, 3⟩, ⟨.int .u8 2, v4, 4⟩] 5)) :=
  run_update Try.underlying52 Try.underlying5 W g 4 [⟨.int .u8 0, v0, 0⟩, ⟨.int .u8 1, v1, 1⟩, ⟨.int .u8 5, v2, 2⟩, ⟨.int .u8 4, v3, 3⟩] 2 v4 hg (by rfl)
theorem qup5 (W : World) (g : Nat) (v0 v1 v2 v3 v4 v5 : Value) (hg : g = W.heap.size) : (Instr.mapUpdate 52 (.map (some g)) (.int .u8 3) v5).run Try.prog (W.alloc (.map #[⟨.int .u8 0, v0, 0⟩, ⟨.int .u8 1, v1, 1⟩, ⟨.int .u8 5, v2, 2⟩, ⟨.int .u8 4, v3, 3⟩, ⟨.int .u8 2, v4, 4⟩] 5)) = .ok () (W.alloc (.map #[⟨.int .u8 0, v0, 0⟩, ⟨.int .u8 1, v1, 1⟩, ⟨.int .u8 5, v2, 2⟩, ⟨.int .u8 4, v3, 3⟩, ⟨.int .u8 2, v4, 4⟩, ⟨.int .u8 3, v5, 5⟩] 6)) :=
  run_update Try.underlying52 Try.underlying5 W g 5 [⟨.int .u8 0, v0, 0⟩, ⟨.int .u8 1, v1, 1⟩, ⟨.int .u8 5, v2, 2⟩, ⟨.int .u8 4, v3, 3⟩, ⟨.int .u8 2, v4, 4⟩] 3 v5 hg (by rfl)
theorem qup6 (W : World) (g : Nat) (v0 v1 v2 v3 v4 v5 v6 : Value) (hg : g = W.heap.size) : (Instr.mapUpdate 52 (.map (some g)) (.int .u8 10) v6).run Try.prog (W.alloc (.map #[⟨.int .u8 0, v0, 0⟩, ⟨.int .u8 1, v1, 1⟩, ⟨.int .u8 5, v2, 2⟩, ⟨.int .u8 4, v3, 3⟩, ⟨.int .u8 2, v4, 4⟩, ⟨.int .u8 3, v5, 5⟩] 6)) = .ok () (W.alloc (.map #[⟨.int .u8 0, v0, 0⟩, ⟨.int .u8 1, v1, 1⟩, ⟨.int .u8 5, v2, 2⟩, ⟨.int .u8 4, v3, 3⟩, ⟨.int .u8 2, v4, 4⟩, ⟨.int .u8 3, v5, 5⟩, ⟨.int .u8 10, v6, 6⟩] 7)) :=
  run_update Try.underlying52 Try.underlying5 W g 6 [⟨.int .u8 0, v0, 0⟩, ⟨.int .u8 1, v1, 1⟩, ⟨.int .u8 5, v2, 2⟩, ⟨.int .u8 4, v3, 3⟩, ⟨.int .u8 2, v4, 4⟩, ⟨.int .u8 3, v5, 5⟩] 10 v6 hg (by rfl)
theorem qup7 (W : World) (g : Nat) (v0 v1 v2 v3 v4 v5 v6 v7 : Value) (hg : g = W.heap.size) : (Instr.mapUpdate 52 (.map (some g)) (.int .u8 11) v7).run Try.prog (W.alloc (.map #[⟨.int .u8 0, v0, 0⟩, ⟨.int .u8 1, v1, 1⟩, ⟨.int .u8 5, v2, 2⟩, ⟨.int .u8 4, v3, 3⟩, ⟨.int .u8 2, v4, 4⟩, ⟨.int .u8 3, v5, 5⟩, ⟨.int .u8 10, v6, 6⟩] 7)) = .ok () (W.alloc (.map #[⟨.int .u8 0, v0, 0⟩, ⟨.int .u8 1, v1, 1⟩, ⟨.int .u8 5, v2, 2⟩, ⟨.int .u8 4, v3, 3⟩, ⟨.int .u8 2, v4, 4⟩, ⟨.int .u8 3, v5, 5⟩, ⟨.int .u8 10, v6, 6⟩, ⟨.int .u8 11, v7, 7⟩] 8)) :=
  run_update Try.underlying52 Try.underlying5 W g 7 [⟨.int .u8 0, v0, 0⟩, ⟨.int .u8 1, v1, 1⟩, ⟨.int .u8 5, v2, 2⟩, ⟨.int .u8 4, v3, 3⟩, ⟨.int .u8 2, v4, 4⟩, ⟨.int .u8 3, v5, 5⟩, ⟨.int .u8 10, v6, 6⟩] 11 v7 hg (by rfl)
theorem qup8 (W : World) (g : Nat) (v0 v1 v2 v3 v4 v5 v6 v7 v8 : Value) (hg : g = W.heap.size) : (Instr.mapUpdate 52 (.map (some g)) (.int .u8 6) v8).run Try.prog (W.alloc (.map #[⟨.int .u8 0, v0, 0⟩, ⟨.int .u8 1, v1, 1⟩, ⟨.int .u8 5, v2, 2⟩, ⟨.int .u8 4, v3, 3⟩, ⟨.int .u8 2, v4, 4⟩, ⟨.int .u8 3, v5, 5⟩, ⟨.int .u8 10, v6, 6⟩, ⟨.int .u8 11, v7, 7⟩] 8)) = .ok () (W.alloc (.map #[⟨.int .u8 0, v0, 0⟩, ⟨.int .u8 1, v1, 1⟩, ⟨.int .u8 5, v2, 2⟩, ⟨.int .u8 4, v3, 3⟩, ⟨.int .u8 2, v4, 4⟩, ⟨.int .u8 3, v5, 5⟩, ⟨.int .u8 10, v6, 6⟩, ⟨.int .u8 11, v7, 7⟩, ⟨.int .u8 6, v8, 8⟩] 9)) :=
  run_update Try.underlying52 Try.underlying5 W g 8 [⟨.int .u8 0, v0, 0⟩, ⟨.int .u8 1, v1, 1⟩, ⟨.int .u8 5, v2, 2⟩, ⟨.int .u8 4, v3, 3⟩, ⟨.int .u8 2, v4, 4⟩, ⟨.int .u8 3, v5, 5⟩, ⟨.int .u8 10, v6, 6⟩, ⟨.int .u8 11, v7, 7⟩] 6 v8 hg (by rfl)
theorem qup9 (W : World) (g : Nat) (v0 v1 v2 v3 v4 v5 v6 v7 v8 v9 : Value) (hg : g = W.heap.size) : (Instr.mapUpdate 52 (.map (some g)) (.int .u8 7) v9).run Try.prog (W.alloc (.map #[⟨.int .u8 0, v0, 0⟩, ⟨.int .u8 1, v1, 1⟩, ⟨.int .u8 5, v2, 2⟩, ⟨.int .u8 4, v3, 3⟩, ⟨.int .u8 2, v4, 4⟩, ⟨.int .u8 3, v5, 5⟩, ⟨.int .u8 10, v6, 6⟩, ⟨.int .u8 11, v7, 7⟩, ⟨.int .u8 6, v8, 8⟩] 9)) = .ok () (W.alloc (.map #[⟨.int .u8 0, v0, 0⟩, ⟨.int .u8 1, v1, 1⟩, ⟨.int .u8 5, v2, 2⟩, ⟨.int .u8 4, v3, 3⟩, ⟨.int .u8 2, v4, 4⟩, ⟨.int .u8 3, v5, 5⟩, ⟨.int .u8 10, v6, 6⟩, ⟨.int .u8 11, v7, 7⟩, ⟨.int .u8 6, v8, 8⟩, ⟨.int .u8 7, v9, 9⟩] 10)) :=
  run_update Try.underlying52 Try.underlying5 W g 9 [⟨.int .u8 0, v0, 0⟩, ⟨.int .u8 1, v1, 1⟩, ⟨.int .u8 5, v2, 2⟩, ⟨.int .u8 4, v3, 3⟩, ⟨.int .u8 2, v4, 4⟩, ⟨.int .u8 3, v5, 5⟩, ⟨.int .u8 10, v6, 6⟩, ⟨.int .u8 11, v7, 7⟩, ⟨.int .u8 6, v8, 8⟩] 7 v9 hg (by rfl)
theorem qup10 (W : World) (g : Nat) (v0 v1 v2 v3 v4 v5 v6 v7 v8 v9 v10 : Value) (hg : g = W.heap.size) : (Instr.mapUpdate 52 (.map (some g)) (.int .u8 12) v10).run Try.prog (W.alloc (.map #[⟨.int .u8 0, v0, 0⟩, ⟨.int .u8 1, v1, 1⟩, ⟨.int .u8 5, v2, 2⟩, ⟨.int .u8 4, v3, 3⟩, ⟨.int .u8 2, v4, 4⟩, ⟨.int .u8 3, v5, 5⟩, ⟨.int .u8 10, v6, 6⟩, ⟨.int .u8 11, v7, 7⟩, ⟨.int .u8 6, v8, 8⟩, ⟨.int .u8 7, v9, 9⟩] 10)) = .ok () (W.alloc (.map #[⟨.int .u8 0, v0, 0⟩, ⟨.int .u8 1, v1, 1⟩, ⟨.int .u8 5, v2, 2⟩, ⟨.int .u8 4, v3, 3⟩, ⟨.int .u8 2, v4, 4⟩, ⟨.int .u8 3, v5, 5⟩, ⟨.int .u8 10, v6, 6⟩, ⟨.int .u8 11, v7, 7⟩, ⟨.int .u8 6, v8, 8⟩, ⟨.int .u8 7, v9, 9⟩, ⟨.int .u8 12, v10, 10⟩] 11)) :=
  run_update Try.underlying52 Try.underlying5 W g 10 [⟨.int .u8 0, v0, 0⟩, ⟨.int .u8 1, v1, 1⟩, ⟨.int .u8 5, v2, 2⟩, ⟨.int .u8 4, v3, 3⟩, ⟨.int .u8 2, v4, 4⟩, ⟨.int .u8 3, v5, 5⟩, ⟨.int .u8 10, v6, 6⟩, ⟨.int .u8 11, v7, 7⟩, ⟨.int .u8 6, v8, 8⟩, ⟨.int .u8 7, v9, 9⟩] 12 v10 hg (by rfl)
theorem qup11 (W : World) (g : Nat) (v0 v1 v2 v3 v4 v5 v6 v7 v8 v9 v10 v11 : Value) (hg : g = W.heap.size) : (Instr.mapUpdate 52 (.map (some g)) (.int .u8 13) v11).run Try.prog (W.alloc (.map #[⟨.int .u8 0, v0, 0⟩, ⟨.int .u8 1, v1, 1⟩, ⟨.int .u8 5, v2, 2⟩, ⟨.int .u8 4, v3, 3⟩, ⟨.int .u8 2, v4, 4⟩, ⟨.int .u8 3, v5, 5⟩, ⟨.int .u8 10, v6, 6⟩, ⟨.int .u8 11, v7, 7⟩, ⟨.int .u8 6, v8, 8⟩, ⟨.int .u8 7, v9, 9⟩, ⟨.int .u8 12, v10, 10⟩] 11)) = .ok () (W.alloc (.map #[⟨.int .u8 0, v0, 0⟩, ⟨.int .u8 1, v1, 1⟩, ⟨.int .u8 5, v2, 2⟩, ⟨.int .u8 4, v3, 3⟩, ⟨.int .u8 2, v4, 4⟩, ⟨.int .u8 3, v5, 5⟩, ⟨.int .u8 10, v6, 6⟩, ⟨.int .u8 11, v7, 7⟩, ⟨.int .u8 6, v8, 8⟩, ⟨.int .u8 7, v9, 9⟩, ⟨.int .u8 12, v10, 10⟩, ⟨.int .u8 13, v11, 11⟩] 12)) :=
  run_update Try.underlying52 Try.underlying5 W g 11 [⟨.int .u8 0, v0, 0⟩, ⟨.int .u8 1, v1, 1⟩, ⟨.int .u8 5, v2, 2⟩, ⟨.int .u8 4, v3, 3⟩, ⟨.int .u8 2, v4, 4⟩, ⟨.int .u8 3, v5, 5⟩, ⟨.int .u8 10, v6, 6⟩, ⟨.int .u8 11, v7, 7⟩, ⟨.int .u8 6, v8, 8⟩, ⟨.int .u8 7, v9, 9⟩, ⟨.int .u8 12, v10, 10⟩] 13 v11 hg (by rfl)
/-- The table that deeds makes: p and q are the places of size and bits. -/
def deedsT (p q : Nat) : List MapEntry :=
  [⟨.int .u8 0, fv 26 [], 0⟩, ⟨.int .u8 1, fv 27 [], 1⟩, ⟨.int .u8 2, fv 28 [], 2⟩, ⟨.int .u8 3, fv 29 [], 3⟩, ⟨.int .u8 9, fv 30 [], 4⟩, ⟨.int .u8 4, fv 31 [], 5⟩, ⟨.int .u8 5, fv 32 [], 6⟩, ⟨.int .u8 10, fv 33 [], 7⟩, ⟨.int .u8 6, fv 34 [q], 8⟩, ⟨.int .u8 7, fv 35 [q], 9⟩, ⟨.int .u8 12, fv 36 [p, q], 10⟩, ⟨.int .u8 8, fv 38 [], 11⟩, ⟨.int .u8 11, fv 39 [], 12⟩]
/-- The table that questions makes: p and q are the places of size and sign. -/
def asksT (p q : Nat) : List MapEntry :=
  [⟨.int .u8 0, fv 45 [], 0⟩, ⟨.int .u8 1, fv 46 [], 1⟩, ⟨.int .u8 5, fv 47 [], 2⟩, ⟨.int .u8 4, fv 48 [], 3⟩, ⟨.int .u8 2, fv 49 [], 4⟩, ⟨.int .u8 3, fv 51 [], 5⟩, ⟨.int .u8 10, fv 52 [], 6⟩, ⟨.int .u8 11, fv 53 [], 7⟩, ⟨.int .u8 6, fv 54 [q], 8⟩, ⟨.int .u8 7, fv 56 [q], 9⟩, ⟨.int .u8 12, fv 57 [q], 10⟩, ⟨.int .u8 13, fv 58 [q], 11⟩]

def deedsW (wd : Bool) (w : World) : World := ((w.alloc (.cells #[.int .i64 (sz wd)] 3)).alloc (.cells #[.int .u64 (8 * sz wd)] 22)).alloc (.map (deedsT w.heap.size (w.heap.size + 1)).toArray 13)
def asksW (wd : Bool) (w : World) : World := ((w.alloc (.cells #[.int .i64 (sz wd)] 3)).alloc (.cells #[fv 44 [w.heap.size]] 57)).alloc (.map (asksT w.heap.size (w.heap.size + 1)).toArray 12)

set_option maxHeartbeats 1000000 in
theorem deeds_any (wd : Bool) (w : World) : Calls Try.prog 19 #[.int .i64 (sz wd)] w fun e w' => e = .returned (.map (some (w.heap.size + 2))) ∧ w' = deedsW wd w := by
  have hmf : ∀ (fn : Fn) (first cap : Array Value) (w : World), (Instr.makeFunc fn first cap).run Try.prog w = .ok (.func fn first cap) w := fun _ _ _ _ => rfl
  have hmm := @run_makeMap Try.prog
  have h0 := dup0
  have h1 := dup1
  have h2 := dup2
  have h3 := dup3
  have h4 := dup4
  have h5 := dup5
  have h6 := dup6
  have h7 := dup7
  have h8 := dup8
  have h9 := dup9
  have h10 := dup10
  have h11 := dup11
  have h12 := dup12
  cases wd
  · rw [show sz false = 4 from rfl]
    go_enter Try.func19, Try.ntmps19
    go_wp2
    go_ret
    exact ⟨rfl, rfl⟩
  · rw [show sz true = 8 from rfl]
    go_enter Try.func19, Try.ntmps19
    go_wp2
    go_ret
    exact ⟨rfl, rfl⟩

set_option maxHeartbeats 1000000 in
theorem questions_any (wd : Bool) (w : World) : Calls Try.prog 25 #[.int .i64 (sz wd)] w fun e w' => e = .returned (.map (some (w.heap.size + 2))) ∧ w' = asksW wd w := by
  have hmf : ∀ (fn : Fn) (first cap : Array Value) (w : World), (Instr.makeFunc fn first cap).run Try.prog w = .ok (.func fn first cap) w := fun _ _ _ _ => rfl
  have hmm := @run_makeMap Try.prog
  have h0 := qup0
  have h1 := qup1
  have h2 := qup2
  have h3 := qup3
  have h4 := qup4
  have h5 := qup5
  have h6 := qup6
  have h7 := qup7
  have h8 := qup8
  have h9 := qup9
  have h10 := qup10
  have h11 := qup11
  go_enter Try.func25, Try.ntmps25
  go_wp2
  go_ret
  exact ⟨rfl, rfl⟩

theorem deeds_heap (wd : Bool) (w : World) : (deedsW wd w).heap[w.heap.size + 2]? = some (.map (deedsT w.heap.size (w.heap.size + 1)).toArray 13) := by
  have := (MapKept.heap_alloc ((w.alloc (.cells #[.int .i64 (sz wd)] 3)).alloc (.cells #[.int .u64 (8 * sz wd)] 22)) (.map (deedsT w.heap.size (w.heap.size + 1)).toArray 13)).1
  simpa [deedsW] using this
theorem asks_heap (wd : Bool) (w : World) : (asksW wd w).heap[w.heap.size + 2]? = some (.map (asksT w.heap.size (w.heap.size + 1)).toArray 12) := by
  have := (MapKept.heap_alloc ((w.alloc (.cells #[.int .i64 (sz wd)] 3)).alloc (.cells #[fv 44 [w.heap.size]] 57)) (.map (asksT w.heap.size (w.heap.size + 1)).toArray 12)).1
  simpa [asksW] using this
theorem deeds_gr (wd : Bool) (w : World) : Gr w (deedsW wd w) := by
  unfold deedsW
  exact ⟨by go_grown, Grown.allocMap (by go_grown) _ _⟩
theorem asks_gr (wd : Bool) (w : World) : Gr w (asksW wd w) := by
  unfold asksW
  exact ⟨by go_grown, Grown.allocMap (by go_grown) _ _⟩
theorem deeds_size (wd : Bool) (w : World) : (deedsW wd w).cell? ⟨w.heap.size, 0, none⟩ = some (.int .i64 (sz wd)) := by
  rw [deedsW, World.cell?_alloc_past _ _ _ (by simp; omega), World.cell?_alloc_past _ _ _ (by simp), World.cell?_alloc_at _ _ _ _ rfl]; rfl
theorem deeds_bits (wd : Bool) (w : World) : (deedsW wd w).cell? ⟨w.heap.size + 1, 0, none⟩ = some (.int .u64 (8 * sz wd)) := by
  rw [deedsW, World.cell?_alloc_past _ _ _ (by simp), World.cell?_alloc_at _ _ _ _ (by simp)]; rfl
theorem asks_size (wd : Bool) (w : World) : (asksW wd w).cell? ⟨w.heap.size, 0, none⟩ = some (.int .i64 (sz wd)) := by
  rw [asksW, World.cell?_alloc_past _ _ _ (by simp; omega), World.cell?_alloc_past _ _ _ (by simp), World.cell?_alloc_at _ _ _ _ rfl]; rfl
theorem asks_sign (wd : Bool) (w : World) : (asksW wd w).cell? ⟨w.heap.size + 1, 0, none⟩ = some (fv 44 [w.heap.size]) := by
  rw [asksW, World.cell?_alloc_past _ _ _ (by simp), World.cell?_alloc_at _ _ _ _ (by simp)]; rfl

theorem dlook0 (wd : Bool) (w : World) : (Instr.lookup 45 (.map (some (w.heap.size + 2))) (.int .u8 0) true).run Try.prog (deedsW wd w) = .ok (.tuple #[fv 26 [], .bool true]) (deedsW wd w) :=
  run_look_yes Try.underlying45 Try.underlying5 ((deedsT w.heap.size (w.heap.size + 1)).take 0) ((deedsT w.heap.size (w.heap.size + 1)).drop 1) 0 _ (deeds_heap wd w) (by rfl)
theorem dlook1 (wd : Bool) (w : World) : (Instr.lookup 45 (.map (some (w.heap.size + 2))) (.int .u8 1) true).run Try.prog (deedsW wd w) = .ok (.tuple #[fv 27 [], .bool true]) (deedsW wd w) :=
  run_look_yes Try.underlying45 Try.underlying5 ((deedsT w.heap.size (w.heap.size + 1)).take 1) ((deedsT w.heap.size (w.heap.size + 1)).drop 2) 1 _ (deeds_heap wd w) (by rfl)
theorem dlook2 (wd : Bool) (w : World) : (Instr.lookup 45 (.map (some (w.heap.size + 2))) (.int .u8 2) true).run Try.prog (deedsW wd w) = .ok (.tuple #[fv 28 [], .bool true]) (deedsW wd w) :=
  run_look_yes Try.underlying45 Try.underlying5 ((deedsT w.heap.size (w.heap.size + 1)).take 2) ((deedsT w.heap.size (w.heap.size + 1)).drop 3) 2 _ (deeds_heap wd w) (by rfl)
theorem dlook3 (wd : Bool) (w : World) : (Instr.lookup 45 (.map (some (w.heap.size + 2))) (.int .u8 3) true).run Try.prog (deedsW wd w) = .ok (.tuple #[fv 29 [], .bool true]) (deedsW wd w) :=
  run_look_yes Try.underlying45 Try.underlying5 ((deedsT w.heap.size (w.heap.size + 1)).take 3) ((deedsT w.heap.size (w.heap.size + 1)).drop 4) 3 _ (deeds_heap wd w) (by rfl)
theorem dlook9 (wd : Bool) (w : World) : (Instr.lookup 45 (.map (some (w.heap.size + 2))) (.int .u8 9) true).run Try.prog (deedsW wd w) = .ok (.tuple #[fv 30 [], .bool true]) (deedsW wd w) :=
  run_look_yes Try.underlying45 Try.underlying5 ((deedsT w.heap.size (w.heap.size + 1)).take 4) ((deedsT w.heap.size (w.heap.size + 1)).drop 5) 9 _ (deeds_heap wd w) (by rfl)
theorem dlook4 (wd : Bool) (w : World) : (Instr.lookup 45 (.map (some (w.heap.size + 2))) (.int .u8 4) true).run Try.prog (deedsW wd w) = .ok (.tuple #[fv 31 [], .bool true]) (deedsW wd w) :=
  run_look_yes Try.underlying45 Try.underlying5 ((deedsT w.heap.size (w.heap.size + 1)).take 5) ((deedsT w.heap.size (w.heap.size + 1)).drop 6) 4 _ (deeds_heap wd w) (by rfl)
theorem dlook5 (wd : Bool) (w : World) : (Instr.lookup 45 (.map (some (w.heap.size + 2))) (.int .u8 5) true).run Try.prog (deedsW wd w) = .ok (.tuple #[fv 32 [], .bool true]) (deedsW wd w) :=
  run_look_yes Try.underlying45 Try.underlying5 ((deedsT w.heap.size (w.heap.size + 1)).take 6) ((deedsT w.heap.size (w.heap.size + 1)).drop 7) 5 _ (deeds_heap wd w) (by rfl)
theorem dlook10 (wd : Bool) (w : World) : (Instr.lookup 45 (.map (some (w.heap.size + 2))) (.int .u8 10) true).run Try.prog (deedsW wd w) = .ok (.tuple #[fv 33 [], .bool true]) (deedsW wd w) :=
  run_look_yes Try.underlying45 Try.underlying5 ((deedsT w.heap.size (w.heap.size + 1)).take 7) ((deedsT w.heap.size (w.heap.size + 1)).drop 8) 10 _ (deeds_heap wd w) (by rfl)
theorem dlook6 (wd : Bool) (w : World) : (Instr.lookup 45 (.map (some (w.heap.size + 2))) (.int .u8 6) true).run Try.prog (deedsW wd w) = .ok (.tuple #[fv 34 [w.heap.size + 1], .bool true]) (deedsW wd w) :=
  run_look_yes Try.underlying45 Try.underlying5 ((deedsT w.heap.size (w.heap.size + 1)).take 8) ((deedsT w.heap.size (w.heap.size + 1)).drop 9) 6 _ (deeds_heap wd w) (by rfl)
theorem dlook7 (wd : Bool) (w : World) : (Instr.lookup 45 (.map (some (w.heap.size + 2))) (.int .u8 7) true).run Try.prog (deedsW wd w) = .ok (.tuple #[fv 35 [w.heap.size + 1], .bool true]) (deedsW wd w) :=
  run_look_yes Try.underlying45 Try.underlying5 ((deedsT w.heap.size (w.heap.size + 1)).take 9) ((deedsT w.heap.size (w.heap.size + 1)).drop 10) 7 _ (deeds_heap wd w) (by rfl)
theorem dlook12 (wd : Bool) (w : World) : (Instr.lookup 45 (.map (some (w.heap.size + 2))) (.int .u8 12) true).run Try.prog (deedsW wd w) = .ok (.tuple #[fv 36 [w.heap.size, w.heap.size + 1], .bool true]) (deedsW wd w) :=
  run_look_yes Try.underlying45 Try.underlying5 ((deedsT w.heap.size (w.heap.size + 1)).take 10) ((deedsT w.heap.size (w.heap.size + 1)).drop 11) 12 _ (deeds_heap wd w) (by rfl)
theorem dlook8 (wd : Bool) (w : World) : (Instr.lookup 45 (.map (some (w.heap.size + 2))) (.int .u8 8) true).run Try.prog (deedsW wd w) = .ok (.tuple #[fv 38 [], .bool true]) (deedsW wd w) :=
  run_look_yes Try.underlying45 Try.underlying5 ((deedsT w.heap.size (w.heap.size + 1)).take 11) ((deedsT w.heap.size (w.heap.size + 1)).drop 12) 8 _ (deeds_heap wd w) (by rfl)
theorem dlook11 (wd : Bool) (w : World) : (Instr.lookup 45 (.map (some (w.heap.size + 2))) (.int .u8 11) true).run Try.prog (deedsW wd w) = .ok (.tuple #[fv 39 [], .bool true]) (deedsW wd w) :=
  run_look_yes Try.underlying45 Try.underlying5 ((deedsT w.heap.size (w.heap.size + 1)).take 12) ((deedsT w.heap.size (w.heap.size + 1)).drop 13) 11 _ (deeds_heap wd w) (by rfl)
theorem dlook_no (wd : Bool) (w : World) (c : Int) (hc : c ≠ 0 ∧ c ≠ 1 ∧ c ≠ 2 ∧ c ≠ 3 ∧ c ≠ 9 ∧ c ≠ 4 ∧ c ≠ 5 ∧ c ≠ 10 ∧ c ≠ 6 ∧ c ≠ 7 ∧ c ≠ 12 ∧ c ≠ 8 ∧ c ≠ 11) : (Instr.lookup 45 (.map (some (w.heap.size + 2))) (.int .u8 c) true).run Try.prog (deedsW wd w) = .ok (.tuple #[.nilFunc, .bool false]) (deedsW wd w) :=
  run_look_no Try.underlying45 Try.underlying5 _ c .nilFunc (deeds_heap wd w) (by rfl) (by simp [deedsT, keyNe, hc])
theorem qlook0 (wd : Bool) (w : World) : (Instr.lookup 52 (.map (some (w.heap.size + 2))) (.int .u8 0) true).run Try.prog (asksW wd w) = .ok (.tuple #[fv 45 [], .bool true]) (asksW wd w) :=
  run_look_yes Try.underlying52 Try.underlying5 ((asksT w.heap.size (w.heap.size + 1)).take 0) ((asksT w.heap.size (w.heap.size + 1)).drop 1) 0 _ (asks_heap wd w) (by rfl)
theorem qlook1 (wd : Bool) (w : World) : (Instr.lookup 52 (.map (some (w.heap.size + 2))) (.int .u8 1) true).run Try.prog (asksW wd w) = .ok (.tuple #[fv 46 [], .bool true]) (asksW wd w) :=
  run_look_yes Try.underlying52 Try.underlying5 ((asksT w.heap.size (w.heap.size + 1)).take 1) ((asksT w.heap.size (w.heap.size + 1)).drop 2) 1 _ (asks_heap wd w) (by rfl)
theorem qlook5 (wd : Bool) (w : World) : (Instr.lookup 52 (.map (some (w.heap.size + 2))) (.int .u8 5) true).run Try.prog (asksW wd w) = .ok (.tuple #[fv 47 [], .bool true]) (asksW wd w) :=
  run_look_yes Try.underlying52 Try.underlying5 ((asksT w.heap.size (w.heap.size + 1)).take 2) ((asksT w.heap.size (w.heap.size + 1)).drop 3) 5 _ (asks_heap wd w) (by rfl)
theorem qlook4 (wd : Bool) (w : World) : (Instr.lookup 52 (.map (some (w.heap.size + 2))) (.int .u8 4) true).run Try.prog (asksW wd w) = .ok (.tuple #[fv 48 [], .bool true]) (asksW wd w) :=
  run_look_yes Try.underlying52 Try.underlying5 ((asksT w.heap.size (w.heap.size + 1)).take 3) ((asksT w.heap.size (w.heap.size + 1)).drop 4) 4 _ (asks_heap wd w) (by rfl)
theorem qlook2 (wd : Bool) (w : World) : (Instr.lookup 52 (.map (some (w.heap.size + 2))) (.int .u8 2) true).run Try.prog (asksW wd w) = .ok (.tuple #[fv 49 [], .bool true]) (asksW wd w) :=
  run_look_yes Try.underlying52 Try.underlying5 ((asksT w.heap.size (w.heap.size + 1)).take 4) ((asksT w.heap.size (w.heap.size + 1)).drop 5) 2 _ (asks_heap wd w) (by rfl)
theorem qlook3 (wd : Bool) (w : World) : (Instr.lookup 52 (.map (some (w.heap.size + 2))) (.int .u8 3) true).run Try.prog (asksW wd w) = .ok (.tuple #[fv 51 [], .bool true]) (asksW wd w) :=
  run_look_yes Try.underlying52 Try.underlying5 ((asksT w.heap.size (w.heap.size + 1)).take 5) ((asksT w.heap.size (w.heap.size + 1)).drop 6) 3 _ (asks_heap wd w) (by rfl)
theorem qlook10 (wd : Bool) (w : World) : (Instr.lookup 52 (.map (some (w.heap.size + 2))) (.int .u8 10) true).run Try.prog (asksW wd w) = .ok (.tuple #[fv 52 [], .bool true]) (asksW wd w) :=
  run_look_yes Try.underlying52 Try.underlying5 ((asksT w.heap.size (w.heap.size + 1)).take 6) ((asksT w.heap.size (w.heap.size + 1)).drop 7) 10 _ (asks_heap wd w) (by rfl)
theorem qlook11 (wd : Bool) (w : World) : (Instr.lookup 52 (.map (some (w.heap.size + 2))) (.int .u8 11) true).run Try.prog (asksW wd w) = .ok (.tuple #[fv 53 [], .bool true]) (asksW wd w) :=
  run_look_yes Try.underlying52 Try.underlying5 ((asksT w.heap.size (w.heap.size + 1)).take 7) ((asksT w.heap.size (w.heap.size + 1)).drop 8) 11 _ (asks_heap wd w) (by rfl)
theorem qlook6 (wd : Bool) (w : World) : (Instr.lookup 52 (.map (some (w.heap.size + 2))) (.int .u8 6) true).run Try.prog (asksW wd w) = .ok (.tuple #[fv 54 [w.heap.size + 1], .bool true]) (asksW wd w) :=
  run_look_yes Try.underlying52 Try.underlying5 ((asksT w.heap.size (w.heap.size + 1)).take 8) ((asksT w.heap.size (w.heap.size + 1)).drop 9) 6 _ (asks_heap wd w) (by rfl)
theorem qlook7 (wd : Bool) (w : World) : (Instr.lookup 52 (.map (some (w.heap.size + 2))) (.int .u8 7) true).run Try.prog (asksW wd w) = .ok (.tuple #[fv 56 [w.heap.size + 1], .bool true]) (asksW wd w) :=
  run_look_yes Try.underlying52 Try.underlying5 ((asksT w.heap.size (w.heap.size + 1)).take 9) ((asksT w.heap.size (w.heap.size + 1)).drop 10) 7 _ (asks_heap wd w) (by rfl)
theorem qlook12 (wd : Bool) (w : World) : (Instr.lookup 52 (.map (some (w.heap.size + 2))) (.int .u8 12) true).run Try.prog (asksW wd w) = .ok (.tuple #[fv 57 [w.heap.size + 1], .bool true]) (asksW wd w) :=
  run_look_yes Try.underlying52 Try.underlying5 ((asksT w.heap.size (w.heap.size + 1)).take 10) ((asksT w.heap.size (w.heap.size + 1)).drop 11) 12 _ (asks_heap wd w) (by rfl)
theorem qlook13 (wd : Bool) (w : World) : (Instr.lookup 52 (.map (some (w.heap.size + 2))) (.int .u8 13) true).run Try.prog (asksW wd w) = .ok (.tuple #[fv 58 [w.heap.size + 1], .bool true]) (asksW wd w) :=
  run_look_yes Try.underlying52 Try.underlying5 ((asksT w.heap.size (w.heap.size + 1)).take 11) ((asksT w.heap.size (w.heap.size + 1)).drop 12) 13 _ (asks_heap wd w) (by rfl)
theorem qlook_no (wd : Bool) (w : World) (c : Int) (hc : c ≠ 0 ∧ c ≠ 1 ∧ c ≠ 5 ∧ c ≠ 4 ∧ c ≠ 2 ∧ c ≠ 3 ∧ c ≠ 10 ∧ c ≠ 11 ∧ c ≠ 6 ∧ c ≠ 7 ∧ c ≠ 12 ∧ c ≠ 13) : (Instr.lookup 52 (.map (some (w.heap.size + 2))) (.int .u8 c) true).run Try.prog (asksW wd w) = .ok (.tuple #[.nilFunc, .bool false]) (asksW wd w) :=
  run_look_no Try.underlying52 Try.underlying5 _ c .nilFunc (asks_heap wd w) (by rfl) (by simp [asksT, keyNe, hc])

end Go.Proofs.Ytmngficbohlnhaa
