/- Towards the statements of package types (layer 10): the document's reader. -/
import Derived.Test.YtmcjmdoeafhjpaaEC
import Derived.Test.YtmcjmdoeafhjpaaLH
namespace Go.Proofs.Ytmcjmdoeafhjpaa
open Go.ChangeShapes Go.WideShapes Go.ChangeAt Go.RowKit Go.Shelf
set_option linter.unusedVariables false
set_option linter.unusedSimpArgs false
set_option maxRecDepth 20000

/-- What a call leaves that writes into block R alone. -/
structure RV (R : Nat) (w w' : World) : Prop where
  bl : Below R w w'
  ok : ∀ k, R < k → k < w.heap.size → w'.heap[k]? = w.heap[k]?
theorem RV.refl (R : Nat) (w : World) : RV R w w := ⟨Below.refl _ _, fun _ _ _ => rfl⟩
theorem RV.trans {R : Nat} {a b c : World} (h : RV R a b) (k : RV R b c) : RV R a c := ⟨h.bl.trans k.bl, fun j h1 h2 => (k.ok j h1 (Nat.lt_of_lt_of_le h2 h.bl.size)).trans (h.ok j h1 h2)⟩
theorem RV.heap {R : Nat} {w w' : World} (h : RV R w w') {k : Nat} {o : Obj} (hk : w.heap[k]? = some o) (h3 : k ≠ R) : w'.heap[k]? = some o := by
  rcases Nat.lt_or_gt_of_ne h3 with h4 | h4
  · rw [h.bl.block k h4, hk]
  · rw [h.ok k h4 (ch_lt hk), hk]
theorem RV.of {R : Nat} {w w' : World} (hb : Bl w w') (hR : R ≤ w.heap.size) : RV R w w' := ⟨hb.mono hR, fun k _ h => hb.block k h⟩
theorem RV.set {R j : Nat} {w : World} (u : Value) : RV R w (w.setCell ⟨R, j, none⟩ u) := ⟨setc_below u (Nat.le_refl _), fun k h _ => setc_other u (by omega)⟩
abbrev Rr (R : Nat) (l : List UInt8) (bad : Bool) (w : World) : Prop := w.heap[R]? = some (.cells #[.string (tx l), .bool bad] 80 (0, 0))
def numR (l : List UInt8) (bad : Bool) : Int × List UInt8 × Bool := match l with
  | [] => (0, [], true)
  | x :: r => ((x.toNat : Int), r, bad)
def txtR (l : List UInt8) (bad : Bool) : List UInt8 × List UInt8 × Bool :=
  if ((numR l bad).2.1.length : Int) < (numR l bad).1 then ([], (numR l bad).2.1, true) else ((numR l bad).2.1.take (numR l bad).1.toNat, (numR l bad).2.1.drop (numR l bad).1.toNat, (numR l bad).2.2)
theorem numR_bd (l : List UInt8) (bad : Bool) : (0 ≤ (numR l bad).1 ∧ (numR l bad).1 ≤ 255) ∧ (numR l bad).2.1.length ≤ l.length := by
  unfold numR
  split
  · simp
  · rename_i x r; have := x.toNat_lt; simp; omega
theorem txtR_bd (l : List UInt8) (bad : Bool) : (txtR l bad).1.length ≤ 255 ∧ (txtR l bad).2.1.length ≤ l.length := by
  have := numR_bd l bad
  unfold txtR
  split
  · simp; omega
  · simp; omega
theorem tx_cut (l : List UInt8) (n : Nat) : (tx l).extract n (tx l).size = tx (l.drop n) := by
  apply ByteArray.ext
  rw [ByteArray.data_extract, tx_size]
  apply Array.ext'
  simp [tx]
  exact List.take_of_length_le (by simp)
theorem tx_head (l : List UInt8) (n : Nat) : (tx l).extract 0 n = tx (l.take n) := by
  apply ByteArray.ext
  rw [ByteArray.data_extract]
  apply Array.ext'
  simp [tx]
set_option maxHeartbeats 2000000 in
theorem rnum_any (R : Nat) (l : List UInt8) (bad : Bool) (hl : l.length ≤ 4096) (w : World) (h : Rr R l bad w) :
    Calls Try.prog 39 #[.pointer (some ⟨R, 0, none⟩)] w fun e w' => e = .returned (.int .i64 (numR l bad).1) ∧ Rr R (numR l bad).2.1 (numR l bad).2.2 w' ∧ RV R w w' := by
  have f0 := froz_at (j := 0) h
  have f1 := froz_at (j := 1) h
  have c1 : w.cell? ⟨R, 1, none⟩ = some (.bool bad) := by rw [cell_at h]; rfl
  rcases l with _ | ⟨x, r⟩
  · have c0 : w.cell? ⟨R, 0, none⟩ = some (.string ⟨#[]⟩) := by rw [cell_at h]; rfl
    have hs := setc_heap (j := 1) (.bool true) h
    go_enter Try.func39, Try.ntmps39
    go_wp2
    go_returns
    exact ⟨rfl, hs, RV.set _⟩
  · have c0 : w.cell? ⟨R, 0, none⟩ = some (.string (tx (x :: r))) := by rw [cell_at h]; rfl
    have hz : (tx (x :: r)).size = r.length + 1 := by rw [tx_size]; rfl
    have hs := setc_heap (j := 0) (.string (tx r)) h
    have e0 : (tx (x :: r)).toList = x :: r := by rw [ByteArray.toList_eq]; rfl
    have e1 : (tx (x :: r)).toList.isEmpty = false := by rw [e0]; rfl
    have hcut : ∀ W : World, (Instr.slice 9 (.string (tx (x :: r))) (some (.int .i64 1)) none none).run Try.prog W = .ok (.string (tx r)) W := fun W => by
      rw [run_slice_string_from_if W 9 (tx (x :: r)) .i64 1 Try.underlying9, if_pos ⟨by omega, by rw [hz]; simp at hl; omega⟩]
      rw [show ((1 : Int).toNat) = 1 from rfl, tx_cut]; rfl
    go_enter Try.func39, Try.ntmps39
    have hx0 : wrap64 (((tx (x :: r))[0]'(by rw [hz]; omega)).toNat : Int) = x.toNat := by
      have : (tx (x :: r))[0]'(by rw [hz]; omega) = x := rfl
      rw [this]
      have h := x.toNat_lt
      simp only [wrap64]
      omega
    go_wp2
    go_returns
    exact ⟨by first | rfl | (rw [hx0]; rfl) | simp [numR, hx0], hs, RV.set _⟩

set_option maxHeartbeats 2000000 in
theorem rtext_any (R : Nat) (l : List UInt8) (bad : Bool) (hl : l.length ≤ 4096) (w : World) (h : Rr R l bad w) :
    Calls Try.prog 40 #[.pointer (some ⟨R, 0, none⟩)] w fun e w' => e = .returned (.string (tx (txtR l bad).1)) ∧ Rr R (txtR l bad).2.1 (txtR l bad).2.2 w' ∧ RV R w w' := by
  have k1 := rnum_any R l bad hl w h
  have hbd := numR_bd l bad
  unfold txtR
  generalize (numR l bad).1 = n at k1 hbd
  generalize (numR l bad).2.1 = m at k1 hbd
  generalize (numR l bad).2.2 = b at k1
  obtain ⟨⟨hn0, hn1⟩, hm⟩ := hbd
  obtain ⟨k, rfl⟩ : ∃ k : Nat, n = k := ⟨n.toNat, (Int.toNat_of_nonneg hn0).symm⟩
  have hz := tx_size m
  by_cases hlt : (m.length : Int) < (k : Int)
  · have d : decide (((tx m).size : Int) < (k : Int)) = true := by rw [hz]; simpa using hlt
    have d' : decide ((tx m).size < k) = true := by rw [hz]; simp; omega
    have d2 : (tx m).size < k := by omega
    rw [if_pos hlt]
    clear hlt hz
    go_enter Try.func40, Try.ntmps40
    go_wp2_with (go_at_call 39; refine k1.mono ?_; rintro e w1 ⟨rfl, hr1, hv1⟩; have c0 : w1.cell? ⟨R, 0, none⟩ = some (.string (tx m)) := (by rw [cell_at hr1]; rfl); have c1 : w1.cell? ⟨R, 1, none⟩ = some (.bool b) := (by rw [cell_at hr1]; rfl); have f1 := froz_at (j := 1) hr1)
    go_returns
    exact ⟨rfl, setc_heap (j := 1) (.bool true) hr1, hv1.trans (RV.set _)⟩
  · have d : decide (((tx m).size : Int) < (k : Int)) = false := by rw [hz]; simpa using hlt
    have d' : decide ((tx m).size < k) = false := by rw [hz]; simp; omega
    have d2 : ¬ (tx m).size < k := by omega
    rw [if_neg hlt, Int.toNat_natCast]
    have hcut : ∀ W : World, (Instr.slice 9 (.string (tx m)) (some (.int .i64 k)) none none).run Try.prog W = .ok (.string (tx (m.drop k))) W := fun W => by
      rw [run_slice_string_from_if W 9 (tx m) .i64 k Try.underlying9, if_pos ⟨by omega, by rw [hz]; omega⟩, Int.toNat_natCast, tx_cut]
    have hhd : ∀ W : World, (Instr.slice 9 (.string (tx m)) none (some (.int .i64 k)) none).run Try.prog W = .ok (.string (tx (m.take k))) W := fun W => by
      rw [run_slice_string_to_if W 9 (tx m) .i64 k Try.underlying9, if_pos ⟨by omega, by rw [hz]; omega⟩, Int.toNat_natCast, tx_head]
    clear hlt hz
    go_enter Try.func40, Try.ntmps40
    go_wp2_with (go_at_call 39; refine k1.mono ?_; rintro e w1 ⟨rfl, hr1, hv1⟩; have c0 : w1.cell? ⟨R, 0, none⟩ = some (.string (tx m)) := (by rw [cell_at hr1]; rfl); have f0 := froz_at (j := 0) hr1)
    go_returns
    exact ⟨rfl, setc_heap (j := 0) (.string (tx (m.drop k))) hr1, hv1.trans (RV.set _)⟩
def toSt (l : List UInt8) (bad : Bool) : St := if bad then none else some l
theorem num_st (l : List UInt8) (bad : Bool) : (numM (toSt l bad)).2 = toSt (numR l bad).2.1 (numR l bad).2.2 ∧ (bad = false → (numM (toSt l bad)).1 = (numR l bad).1) := by
  cases bad <;> cases l <;> simp [toSt, numM, numR]
theorem numR_bad (l : List UInt8) : (numR l true).2.2 = true := by cases l <;> rfl
theorem take_none (n : Nat) : takeM none n = ([], none) := rfl
theorem txt_st (l : List UInt8) (bad : Bool) : (txtD (toSt l bad)).2 = toSt (txtR l bad).2.1 (txtR l bad).2.2 ∧ (bad = false → (txtD (toSt l bad)).1 = (txtR l bad).1) := by
  have h := num_st l bad
  unfold txtD txtR
  rw [h.1]
  cases bad with
  | true =>
    rw [numR_bad]
    refine ⟨?_, fun h => by cases h⟩
    split <;> rfl
  | false =>
    rw [h.2 rfl]
    have hb := numR_bd l false
    cases l with
    | nil => exact ⟨rfl, fun _ => rfl⟩
    | cons x r =>
      have hn3 : (numR (x :: r) false).2.2 = false := rfl
      rw [hn3]
      generalize (numR (x :: r) false).1 = n at hb
      generalize (numR (x :: r) false).2.1 = m at hb
      have ht : takeM (toSt m false) n.toNat = if m.length < n.toNat then ([], none) else (m.take n.toNat, some (m.drop n.toNat)) := rfl
      rw [ht]
      by_cases hlt : (m.length : Int) < n
      · rw [if_pos hlt, if_pos (by omega)]; exact ⟨rfl, fun _ => rfl⟩
      · rw [if_neg hlt, if_neg (by omega)]; exact ⟨rfl, fun _ => rfl⟩
end Go.Proofs.Ytmcjmdoeafhjpaa
