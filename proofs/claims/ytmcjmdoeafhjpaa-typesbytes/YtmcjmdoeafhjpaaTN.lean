/- Towards the statements of package types (layer 10): Decode's reader. -/
import Derived.Test.YtmcjmdoeafhjpaaTM
namespace Go.Proofs.Ytmcjmdoeafhjpaa
open Go.ChangeShapes Go.WideShapes Go.ChangeAt
open Go.RowKit Go.Shelf
set_option linter.unusedVariables false
set_option linter.unusedSimpArgs false
set_option maxRecDepth 20000
/-- What is left to be read; none: bytes were wanting. -/
abbrev St := Option (List UInt8)
def takeM (st : St) (n : Nat) : List UInt8 × St := match st with
  | none => ([], none)
  | some r => if r.length < n then ([], none) else (r.take n, some (r.drop n))
def numM (st : St) : Int × St := match st with
  | none => (0, none)
  | some [] => (0, none)
  | some (x :: r) => ((x.toNat : Int), some r)
def txtD (st : St) : List UInt8 × St := takeM (numM st).2 (numM st).1.toNat
theorem numM_bd (st : St) : 0 ≤ (numM st).1 ∧ (numM st).1 ≤ 255 := by
  unfold numM
  split
  · simp
  · simp
  · rename_i x r; have := x.toNat_lt; simp; omega
/-- The reader's memory: the text, what reads a number, how far it has come, whether bytes were wanting, what takes bytes. -/
structure Rd (R : Nat) (s : ByteArray) (st : St) (w : World) : Prop where
  h0 : w.heap[R]? = some (.cells #[.string s] 9 (0, 0))
  h1 : w.heap[R + 1]? = some (.cells #[.func (.func 65) #[] #[.pointer (some ⟨R + 4, 0, none⟩)]] 71 (0, 0))
  h4 : w.heap[R + 4]? = some (.cells #[.func (.func 64) #[] #[.pointer (some ⟨R + 3, 0, none⟩), .pointer (some ⟨R, 0, none⟩), .pointer (some ⟨R + 2, 0, none⟩)]] 100 (0, 0))
  at' : ∃ (pos : Nat) (sh : Bool), w.heap[R + 2]? = some (.cells #[.int .i64 pos] 3 (0, 0)) ∧ w.heap[R + 3]? = some (.cells #[.bool sh] 4 (0, 0)) ∧ pos ≤ s.size ∧ ((sh = true ∧ st = none) ∨ (sh = false ∧ st = some (s.data.toList.drop pos)))
/-- What reading leaves as it was. -/
structure RW (R : Nat) (w w' : World) : Prop where
  bl : Below (R + 2) w w'
  ok : ∀ k, R + 3 < k → k < w.heap.size → w'.heap[k]? = w.heap[k]?
theorem RW.refl (R : Nat) (w : World) : RW R w w := ⟨Below.refl _ _, fun _ _ _ => rfl⟩
theorem RW.trans {R : Nat} {a b c : World} (h : RW R a b) (k : RW R b c) : RW R a c := ⟨h.bl.trans k.bl, fun j h1 h2 => (k.ok j h1 (Nat.lt_of_lt_of_le h2 h.bl.size)).trans (h.ok j h1 h2)⟩
theorem RW.of {R : Nat} {w w' : World} (hb : Bl w w') (hR : R + 2 ≤ w.heap.size) : RW R w w' := ⟨hb.mono hR, fun k _ h => hb.block k h⟩
theorem RW.heap {R : Nat} {w w' : World} (h : RW R w w') {k : Nat} {o : Obj} (hk : w.heap[k]? = some o) (h3 : R + 3 < k ∨ k < R + 2) : w'.heap[k]? = some o := by
  rcases h3 with h3 | h3
  · rw [h.ok k h3 (ch_lt hk), hk]
  · rw [h.bl.block k h3, hk]
theorem Rd.gr {R : Nat} {s : ByteArray} {st : St} {w w' : World} (h : Rd R s st w) (hb : Bl w w') : Rd R s st w' := by
  obtain ⟨h0, h1, h4, pos, sh, h2, h3, h5⟩ := h
  exact ⟨it_keep (w := w) h0 hb, it_keep (w := w) h1 hb, it_keep (w := w) h4 hb, pos, sh, it_keep (w := w) h2 hb, it_keep (w := w) h3 hb, h5⟩
theorem Rd.lt {R : Nat} {s : ByteArray} {st : St} {w : World} (h : Rd R s st w) : R + 4 < w.heap.size := ch_lt h.h4
theorem cell_at {w : World} {k j : Nat} {cs : Array Value} {t : TypeId} {fz : Nat × Nat} (h : w.heap[k]? = some (.cells cs t fz)) : w.cell? ⟨k, j, none⟩ = cs[j]? := by unfold World.cell?; rw [h]; rfl
theorem froz_at {w : World} {k j : Nat} {cs : Array Value} {t : TypeId} (h : w.heap[k]? = some (.cells cs t (0, 0))) : w.frozen? ⟨k, j, none⟩ = false := Lib.frozen_of_heap h j
theorem set_heap {w : World} {k j : Nat} {c : Value} {t : TypeId} (u : Value) (h : w.heap[k]? = some (.cells #[c] t (0, 0))) : (w.setCell ⟨k, 0, none⟩ u).heap[k]? = some (.cells #[u] t (0, 0)) := by
  simp [World.setCell, Array.getElem?_modify, h]
theorem set_other {w : World} {k j : Nat} (u : Value) (h : j ≠ k) : (w.setCell ⟨k, 0, none⟩ u).heap[j]? = w.heap[j]? := by
  simp [World.setCell, Array.getElem?_modify]
  intro e; exact absurd e.symm h
theorem set_below {w : World} {k n : Nat} (u : Value) (h : n ≤ k) : Below n w (w.setCell ⟨k, 0, none⟩ u) :=
  ⟨rfl, rfl, rfl, by simp [World.setCell], fun j hj => set_other u (by omega)⟩
set_option maxHeartbeats 2000000 in
theorem take_any (R : Nat) (s : ByteArray) (st : St) (n : Nat) (hn : n ≤ 255) (hs : s.size ≤ 100000000) (w : World) (hR : Rd R s st w) :
    Calls Try.prog 64 #[.int .i64 n, .pointer (some ⟨R + 3, 0, none⟩), .pointer (some ⟨R, 0, none⟩), .pointer (some ⟨R + 2, 0, none⟩)] w fun e w' => e = .returned (.string ⟨(takeM st n).1.toArray⟩) ∧ Rd R s (takeM st n).2 w' ∧ RW R w w' := by
  obtain ⟨h0, h1, h4, pos, sh, h2, h3, hp, hst⟩ := hR
  have c0 : w.cell? ⟨R, 0, none⟩ = some (.string s) := by rw [cell_at h0]; rfl
  have c2 : w.cell? ⟨R + 2, 0, none⟩ = some (.int .i64 pos) := by rw [cell_at h2]; rfl
  have c3 : w.cell? ⟨R + 3, 0, none⟩ = some (.bool sh) := by rw [cell_at h3]; rfl
  have f3 := froz_at (j := 0) h3
  have f2 := froz_at (j := 0) h2
  have e1 : IntKind.i64.wrap ((s.size : Int) - pos) = (s.size : Int) - pos := IntWalk.i64_in _ (by omega)
  have key : ∀ u : Bool, w.heap[R + 3]? = some (.cells #[.bool sh] 4 (0, 0)) → (u = true ∧ True) ∨ u = false → True := fun _ _ _ => trivial
  have fin : ∀ (W : World), W = w.setCell ⟨R + 3, 0, none⟩ (.bool true) → Rd R s none W ∧ RW R w W := by
    rintro W rfl
    refine ⟨⟨(set_other _ (by omega)).trans h0, (set_other _ (by omega)).trans h1, (set_other _ (by omega)).trans h4, pos, true, (set_other _ (by omega)).trans h2, set_heap (j := 0) _ h3, hp, .inl ⟨rfl, rfl⟩⟩, set_below _ (by omega), fun k hk _ => set_other _ (by omega)⟩
  rcases hst with ⟨rfl, rfl⟩ | ⟨rfl, rfl⟩
  · go_enter Try.func64, Try.ntmps64
    go_wp2
    go_returns
    exact ⟨rfl, fin _ rfl⟩
  · have hl : (s.data.toList.drop pos).length = s.size - pos := by rw [List.length_drop]; rfl
    by_cases hlt : s.size - pos < n
    · have d : decide (((s.size : Int) - pos) < n) = true := by simp; omega
      have ht : takeM (some (s.data.toList.drop pos)) n = ([], none) := by rw [takeM, if_pos (by omega)]
      rw [ht]
      clear ht hl
      go_enter Try.func64, Try.ntmps64
      go_wp2
      go_returns
      exact ⟨rfl, fin _ rfl⟩
    · have d : decide (((s.size : Int) - pos) < n) = false := by simp; omega
      have ht : takeM (some (s.data.toList.drop pos)) n = ((s.data.toList.drop pos).take n, some (s.data.toList.drop (pos + n))) := by rw [takeM, if_neg (by omega), List.drop_drop]
      rw [ht]
      have e2 : IntKind.i64.wrap ((pos : Int) + n) = ((pos + n : Nat) : Int) := by rw [IntWalk.i64_in _ (by omega)]; omega
      have e3 : IntKind.i64.wrap (((pos + n : Nat) : Int) - n) = (pos : Int) := by rw [IntWalk.i64_in _ (by omega)]; omega
      have hcut : ∀ W, (Instr.slice 9 (.string s) (some (.int .i64 pos)) (some (.int .i64 ((pos + n : Nat) : Int))) none).run Try.prog W = .ok (.string ⟨((s.data.toList.drop pos).take n).toArray⟩) W := fun W => by
        rw [run_slice_string (P := Try.prog) W 9 s .i64 .i64 (pos : Int) ((pos + n : Nat) : Int) Try.underlying9 (by omega) (by omega) (by omega)]
        simp only [Int.toNat_natCast]
        congr 1
        congr 1
        apply ByteArray.ext
        apply Array.ext'
        rw [Lib.extract_data, Nat.add_sub_cancel_left]
      generalize hpn : pos + n = pn at e2 e3 hcut ht
      have hpn' : pn ≤ s.size := by omega
      replace hpn : Hid (pos + n = pn) := hpn
      clear ht hl
      go_enter Try.func64, Try.ntmps64
      go_upto_region 4 with fail
      have k0 : (w.setCell ⟨R + 3, 0, none⟩ (.bool false)).heap[R]? = _ := (set_other _ (by omega)).trans h0
      have k1 : (w.setCell ⟨R + 3, 0, none⟩ (.bool false)).heap[R + 1]? = _ := (set_other _ (by omega)).trans h1
      have k2 : (w.setCell ⟨R + 3, 0, none⟩ (.bool false)).heap[R + 2]? = _ := (set_other _ (by omega)).trans h2
      have k4 : (w.setCell ⟨R + 3, 0, none⟩ (.bool false)).heap[R + 4]? = _ := (set_other _ (by omega)).trans h4
      have k3 := set_heap (j := 0) (.bool false) h3
      have kw : RW R w (w.setCell ⟨R + 3, 0, none⟩ (.bool false)) := ⟨set_below _ (by omega), fun k hk _ => set_other _ (by omega)⟩
      generalize (w.setCell ⟨R + 3, 0, none⟩ (.bool false)) = W1 at k0 k1 k2 k3 k4 kw ⊢
      clear c0 c2 c3 f2 f3
      have c2 : W1.cell? ⟨R + 2, 0, none⟩ = some (.int .i64 pos) := by rw [cell_at k2]; rfl
      have f2 := froz_at (j := 0) k2
      go_upto_region 5 with fail
      have m0 : (W1.setCell ⟨R + 2, 0, none⟩ (.int .i64 pn)).heap[R]? = _ := (set_other _ (by omega)).trans k0
      have m1 : (W1.setCell ⟨R + 2, 0, none⟩ (.int .i64 pn)).heap[R + 1]? = _ := (set_other _ (by omega)).trans k1
      have m3 : (W1.setCell ⟨R + 2, 0, none⟩ (.int .i64 pn)).heap[R + 3]? = _ := (set_other _ (by omega)).trans k3
      have m4 : (W1.setCell ⟨R + 2, 0, none⟩ (.int .i64 pn)).heap[R + 4]? = _ := (set_other _ (by omega)).trans k4
      have m2 := set_heap (j := 0) (.int .i64 pn) k2
      have mw : RW R W1 (W1.setCell ⟨R + 2, 0, none⟩ (.int .i64 pn)) := ⟨set_below _ (by omega), fun k hk _ => set_other _ (by omega)⟩
      generalize (W1.setCell ⟨R + 2, 0, none⟩ (.int .i64 pn)) = W2 at m0 m1 m2 m3 m4 mw ⊢
      clear c2 f2
      have c0 : W2.cell? ⟨R, 0, none⟩ = some (.string s) := by rw [cell_at m0]; rfl
      have c2 : W2.cell? ⟨R + 2, 0, none⟩ = some (.int .i64 pn) := by rw [cell_at m2]; rfl
      go_wp2
      go_returns
      exact ⟨rfl, ⟨m0, m1, m4, pn, false, m2, m3, hpn', .inr ⟨rfl, rfl⟩⟩, kw.trans mw⟩
end Go.Proofs.Ytmcjmdoeafhjpaa
