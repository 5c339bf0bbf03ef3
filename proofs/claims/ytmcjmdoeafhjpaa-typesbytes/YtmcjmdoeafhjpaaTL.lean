/- Towards the statements of package types (layer 10): what Encode's closures write. -/
import Derived.Test.YtmcjmdoeafhjpaaTK
namespace Go.Proofs.Ytmcjmdoeafhjpaa
open Go.ChangeShapes Go.WideShapes Go.ChangeAt
open Go.RowKit Go.Shelf
set_option linter.unusedVariables false
set_option linter.unusedSimpArgs false
set_option maxRecDepth 20000
theorem builderF_gr {B b : Nat} {bs : List Value} {w w' : World} (h : Lib.IsBuilderF 59 5 B b bs w) (hb : Bl w w') : Lib.IsBuilderF 59 5 B b bs w' := by
  have one : ∀ p, Lib.BuilderAtF 59 5 B b p bs w → Lib.BuilderAtF 59 5 B b p bs w' := by
    rintro p ⟨h1, v, h2, ⟨h3, h3'⟩, h4⟩
    refine ⟨h1, v, (hb.block b (ch_lt h2)).trans h2, ⟨h3, ?_⟩, h4⟩
    rcases h3' with h | ⟨g, cap, cur, fz, e1, e2, e3, e4⟩
    · exact .inl h
    · exact .inr ⟨g, cap, cur, fz, e1, e2, (hb.block g (ch_lt e3)).trans e3, e4⟩
  exact h.elim (fun h => .inl (one _ h)) (fun h => .inr (one _ h))
theorem builderF_lt {B b : Nat} {bs : List Value} {w : World} (h : Lib.IsBuilderF 59 5 B b bs w) : b < w.heap.size ∧ B ≤ b := by
  rcases h with ⟨h1, v, h2, _⟩ | ⟨h1, v, h2, _⟩
  · exact ⟨ch_lt h2, h1⟩
  · exact ⟨ch_lt h2, h1⟩
/-- What a builder's calls leave as it was. -/
structure Wr (B b : Nat) (w w' : World) : Prop where
  bl : Below B w w'
  ok : Lib.OthersKept 5 (some b) w w'
theorem Wr.refl (B b : Nat) (w : World) : Wr B b w w := ⟨Below.refl _ _, Lib.OthersKept.refl _ _ _⟩
theorem Wr.trans {B b : Nat} {w w' w'' : World} (h : Wr B b w w') (k : Wr B b w' w'') : Wr B b w w'' := ⟨h.bl.trans k.bl, h.ok.trans k.ok⟩
theorem ok_of_bl {b : Option Nat} {w w' : World} (hb : Bl w w') : Lib.OthersKept 5 b w w' := fun k o h _ _ => (hb.block k (ch_lt h)).trans h
theorem Wr.of {B b : Nat} {w w' : World} (hb : Bl w w') (hB : B ≤ w.heap.size) : Wr B b w w' := ⟨hb.mono hB, ok_of_bl hb⟩
theorem Wr.heap {B b : Nat} {w w' : World} (h : Wr B b w w') {k : Nat} {cs : Array Value} {t : TypeId} {fz : Nat × Nat} (hk : w.heap[k]? = some (.cells cs t fz)) (hne : k ≠ b) (ht : t ≠ 5) : w'.heap[k]? = some (.cells cs t fz) :=
  h.ok k _ hk (fun e => hne (by injection e)) (fun c fz' e => ht (by injection e))
def toU8 (x : Int) : UInt8 := UInt8.ofNat x.toNat
theorem of1 (x : Int) (h0 : 0 ≤ x) (h1 : x ≤ 255) : ofB x 1 = ⟨[toU8 x].toArray⟩ := by
  have : x % 256 = x := by omega
  rw [ofB, if_pos (by decide), show (1 : Int).toNat = 1 from rfl, digs1, this]
  rfl
theorem write_k (B b : Nat) (l : List UInt8) (s : ByteArray) (w : World) (h : Lib.IsBuilderF 59 5 B b (Lib.byteCells l) w) (hlen : l.length + s.size ≤ 140737488355328) (hBw : B ≤ w.heap.size) :
    Calls Try.prog 29 #[.pointer (some ⟨b, 0, none⟩), .string s] w fun e w' => e = .returned (.tuple #[.int .i64 s.size, .nilIface]) ∧ (Lib.IsBuilderF 59 5 B b (Lib.byteCells (l ++ s.data.toList)) w' ∧ Wr B b w w') := by
  refine (Any.Builder_WriteString_k lays166 extra166 B b (Lib.byteCells l) s w h (by rw [Lib.byteCells, List.length_map]; exact hlen) hBw).mono ?_
  rintro e w' ⟨rfl, h1, h2, h3⟩
  refine ⟨rfl, .inr ?_, h2, h3⟩
  have : Lib.byteCells (l ++ s.data.toList) = Lib.byteCells l ++ Lib.strCells s := by simp [Lib.byteCells, Lib.strCells]
  rw [this]
  exact h1
set_option maxHeartbeats 2000000 in
theorem num_any (B b : Nat) (l : List UInt8) (K : List Int) (hK : ∀ x ∈ K, 0 ≤ x ∧ x ≤ 255) (r c : Nat) (w : World) (hB : Lib.IsBuilderF 59 5 B b (Lib.byteCells l) w) (hBw : B ≤ w.heap.size) (hr : w.heap[r]? = some (.cells (K.map (Value.int .i64)).toArray 3 (0, 0))) (hrb : r ≠ b) (hl : l.length + K.length ≤ 1000000000) (hKl : K.length ≤ 1000) :
    Calls Try.prog 28 #[.slice (some ⟨r, 0, none⟩) K.length c, .pointer (some ⟨b, 0, none⟩)] w fun e w' => (∃ v, e = .returned v) ∧ Lib.IsBuilderF 59 5 B b (Lib.byteCells (l ++ K.map toU8)) w' ∧ Wr B b w w' := by
  go_enter Try.func28, Try.ntmps28
  go_wp2
  go_loopw [7] (fun n wr => ∃ i : Nat, n = .int .i64 i ∧ i ≤ K.length ∧ Lib.IsBuilderF 59 5 B b (Lib.byteCells (l ++ (K.take i).map toU8)) wr ∧ Wr B b w wr) (fun n _ => K.length - (intOf n).toNat)
  case atStart => exact ⟨0, rfl, by omega, by simpa using hB, Wr.refl _ _ _⟩
  case round =>
    obtain ⟨i, rfl, hi, hBi, hw⟩ := hrel
    by_cases h : i < K.length
    · have d : decide ((i : Int) < K.length) = true := by simp; omega
      obtain ⟨x, hx⟩ : ∃ x, K[i]? = some x := ⟨K[i], List.getElem?_eq_getElem _⟩
      have c0 : wr.cell? ⟨r, i, none⟩ = some (.int .i64 x) := by
        unfold World.cell?
        rw [hw.heap hr hrb (by decide)]
        simp [hx]
      obtain ⟨x0, x1⟩ := hK x (List.mem_of_getElem? hx)
      have e9 : IntKind.i64.wrap ((i : Int) + 1) = (i : Int) + 1 := IntWalk.i64_in _ (by omega)
      have hsz : B ≤ wr.heap.size := Nat.le_trans hBw hw.bl.size
      have ko := fun W => of_any x x0 (by omega) 1 W
      rw [of1 x x0 x1] at ko
      have kw := fun W (hW : Bl wr W) => write_k B b (l ++ (K.take i).map toU8) ⟨[toU8 x].toArray⟩ W (builderF_gr hBi hW) (by simp [ByteArray.size]; omega) (Nat.le_trans hsz hW.size)
      have hnext : Hid (l ++ (K.take i).map toU8 ++ [toU8 x] = l ++ (K.take (i + 1)).map toU8) := by
        show _ = _
        rw [List.take_add_one, hx]; simp
      have e1 : IntKind.u64.wrap x = x := by simp [IntKind.wrap, IntKind.signed, IntKind.bits]; omega
      clear hx
      generalize hS : (⟨[toU8 x].toArray⟩ : ByteArray) = S at ko kw
      replace hS : Hid (S.data.toList = [toU8 x]) := by show _ = _; rw [← hS]
      go_wp2_with first | (go_at_call 30; refine (ko _).mono ?_; rintro e w2 ⟨rfl, hg⟩) | (go_at_call 29; refine (kw _ hg.below).mono ?_; rintro e w3 ⟨rfl, hB3, hw3⟩)
      rw [hS.out, hnext.out] at hB3
      exact ⟨⟨i + 1, by simp, by omega, hB3, hw.trans ((Wr.of hg.below hsz).trans hw3)⟩, by simp [intOf]; omega⟩
    · have d : decide ((i : Int) < K.length) = false := by simp; omega
      obtain rfl : i = K.length := by omega
      rw [List.take_length] at hBi
      go_wp2
      go_returns
      exact ⟨⟨_, rfl⟩, hBi, hw⟩
end Go.Proofs.Ytmcjmdoeafhjpaa
