/- Towards HeapPlays and SlabPlays: the document's slab in memory; At, Used, Fits, Read. -/
import Derived.Test.YtooblonafnlfcaaDoorPH
import Derived.Laws.AppendOwnNone
namespace Go.Proofs.YtooblonafnlfcaaDoor
open Go.ChangeShapes Go.WideShapes Go.ChangeAt Go.RowKit
set_option linter.unusedVariables false
set_option linter.unusedSimpArgs false
set_option maxRecDepth 20000
/-- A slot of the document's slab: its number, its bytes. -/
abbrev Ds := Nat × List Int
def dCells : List Ds → List Value
  | [] => []
  | (k, bs) :: l => .int .i64 k :: .string (strOfNums bs) :: dCells l
theorem dCells_len : ∀ l : List Ds, (dCells l).length = l.length * 2
  | [] => rfl
  | _ :: l => by simp only [dCells, List.length_cons, dCells_len l]; omega
theorem dCells_app : ∀ l m : List Ds, dCells (l ++ m) = dCells l ++ dCells m
  | [], _ => rfl
  | _ :: l, m => by simp only [dCells, List.cons_append, dCells_app l m]
theorem dCells_at : ∀ (l : List Ds) (j : Nat) (x : Ds), l[j]? = some x → (dCells l)[j * 2]? = some (.int .i64 x.1) ∧ (dCells l)[j * 2 + 1]? = some (.string (strOfNums x.2))
  | [], j, x, h => by simp at h
  | y :: l, 0, x, h => by simp at h; subst h; exact ⟨rfl, rfl⟩
  | y :: l, j + 1, x, h => by
    have := dCells_at l j x (by simpa using h)
    rw [show (j + 1) * 2 = j * 2 + 1 + 1 by omega]
    simpa [dCells] using this
/-- The document's slab at block r: its room, its slots. -/
structure Rs (w : World) (B r : Nat) (room : Int) (S : List Ds) (v : Value) : Prop where
  cells : w.heap[r]? = some (.cells #[.int .i64 room, v] 80 (0, 0))
  rB : B ≤ r
  row : w.ownsRow B 92 2 v S.length (dCells S)
  len : S.length ≤ 1000
  bs : ∀ x ∈ S, x.1 ≤ 100000 ∧ 1 ≤ x.2.length ∧ x.2.length ≤ 128 ∧ ∀ y ∈ x.2, 0 ≤ y ∧ y ≤ 255
theorem Rs.below {w w' : World} {B r : Nat} {room : Int} {S : List Ds} {v : Value} (h : Rs w B r room S v) (hb : Below w.heap.size w w') : Rs w' B r room S v :=
  ⟨(hb.block _ (heap_lt h.cells)).trans h.cells, h.rB, row_kept h.row (fun g hg => hb.block _ (by obtain ⟨c, e⟩ := row_cells h.row hg; exact heap_lt e)), h.len, h.bs⟩
theorem Rs.size {w : World} {B r : Nat} {room : Int} {S : List Ds} {v : Value} (h : Rs w B r room S v) : B ≤ w.heap.size := Nat.le_trans h.rB (Nat.le_of_lt (heap_lt h.cells))
/-- A slot of a row. -/
theorem idx92 {w : World} {B : Nat} {p : Option Addr} {S : List Ds} {c : Nat} (h : w.ownsRow B 92 2 (.slice p S.length c) S.length (dCells S)) {j : Nat} (hj : j < S.length) (hl : S.length ≤ 100000) :
    ∃ g x, S[j]? = some x ∧ g < w.heap.size ∧ (Value.slice p S.length c).ownBlock = some g ∧ w.cell? ⟨g, j * 2, none⟩ = some (.int .i64 x.1) ∧ w.cell? ⟨g, j * 2 + 1, none⟩ = some (.string (strOfNums x.2)) ∧ ∀ W, (Instr.indexAt 78 (.slice p S.length c) (.int .i64 j)).run Tryd.prog W = .ok (.pointer (some ⟨g, j * 2, none⟩)) W := by
  rcases h.2 with ⟨e, e2⟩ | ⟨g, cap, cur, e, h1, h2, h3⟩
  · omega
  · cases e
    have hx := List.getElem?_eq_getElem hj
    have hc := dCells_at S j _ hx
    refine ⟨g, S[j], hx, heap_lt h2, rfl, ?_, ?_, fun W => ?_⟩
    · rw [h.cellAt _ (by omega)]; exact hc.1
    · rw [h.cellAt _ (by omega)]; exact hc.2
    · have hi2 : (j : Int) < S.length := by omega
      simp [go_sem, hj]
theorem dat_no (w : World) (B r : Nat) (room : Int) (S : List Ds) (v : Value) (h : Rs w B r room S v) (s : Int) (hn : ∀ x ∈ S, (x.1 : Int) ≠ s) :
    Calls Tryd.prog 73 #[.pointer (some ⟨r, 0, none⟩), .int .i64 s] w fun e w' => e = .returned (.int .i64 (-1)) ∧ w' = w := by
  have hl := h.len
  obtain ⟨p, c, rfl⟩ := row_shape h.row
  have c1 : w.cell? ⟨r, 1, none⟩ = some (.slice p S.length c) := by rw [cell_of h.cells]; rfl
  replace hn : Hid _ := hn
  go_enter Tryd.func73, Tryd.ntmps73
  go_wp2
  go_loopw [5] (fun n5 wr => ∃ j : Nat, n5 = .int .i64 j ∧ j ≤ S.length ∧ wr = w) (fun n5 _ => S.length - (valOf n5).toNat)
  case atStart => exact ⟨0, rfl, by omega, rfl⟩
  case round =>
    obtain ⟨j, rfl, hj, hw⟩ := hrel
    rw [hw]; clear hw
    by_cases hin : j < S.length
    · have d : decide ((j : Int) < S.length) = true := by simp; omega
      have e9 : IntKind.i64.wrap ((j : Int) + 1) = (j : Int) + 1 := IntWalk.i64_in _ (by omega)
      obtain ⟨g, x, hx, hgl, hgo, hc0, hc1, hai⟩ := idx92 h.row hin (by omega)
      have hne := hn.out x (List.mem_of_getElem? hx)
      have q : (((x.1 : Nat) : Int) == s) = false := by simp [hne]
      go_wp2
      exact ⟨⟨j + 1, by simp, by omega, by trivial⟩, by simp [valOf]; omega⟩
    · have d : decide ((j : Int) < S.length) = false := by simp; omega
      go_wp2
      all_goals go_returns
      exact ⟨rfl, rfl⟩
theorem dat_yes (w : World) (B r : Nat) (room : Int) (S : List Ds) (v : Value) (h : Rs w B r room S v) (k s : Nat) (bs : List Int) (hk : S[k]? = some (s, bs)) (hd : ∀ j x, j < k → S[j]? = some x → x.1 ≠ s) :
    Calls Tryd.prog 73 #[.pointer (some ⟨r, 0, none⟩), .int .i64 s] w fun e w' => e = .returned (.int .i64 k) ∧ w' = w := by
  have hl := h.len
  have hkl := (List.getElem?_eq_some_iff.1 hk).1
  obtain ⟨p, c, rfl⟩ := row_shape h.row
  have c1 : w.cell? ⟨r, 1, none⟩ = some (.slice p S.length c) := by rw [cell_of h.cells]; rfl
  replace hd : Hid _ := hd
  replace hk : Hid _ := hk
  go_enter Tryd.func73, Tryd.ntmps73
  go_wp2
  go_loopw [5] (fun n5 wr => ∃ j : Nat, n5 = .int .i64 j ∧ j ≤ k ∧ wr = w) (fun n5 _ => S.length - (valOf n5).toNat)
  case atStart => exact ⟨0, rfl, by omega, rfl⟩
  case round =>
    obtain ⟨j, rfl, hj, hw⟩ := hrel
    rw [hw]; clear hw
    have hin : j < S.length := by omega
    have d : decide ((j : Int) < S.length) = true := by simp; omega
    have e9 : IntKind.i64.wrap ((j : Int) + 1) = (j : Int) + 1 := IntWalk.i64_in _ (by omega)
    obtain ⟨g, x, hx, hgl, hgo, hc0, hc1, hai⟩ := idx92 h.row hin (by omega)
    by_cases e : j = k
    · have hxs : x.1 = s := by rw [e, hk.out] at hx; cases hx; rfl
      have q : (((x.1 : Nat) : Int) == (s : Int)) = true := by simp [hxs]
      subst e
      clear hxs hx hk hd
      go_wp2
      all_goals go_returns
      exact ⟨rfl, rfl⟩
    · have hne := hd.out j x (by omega) hx
      have q : (((x.1 : Nat) : Int) == (s : Int)) = false := by simp; omega
      go_wp2
      exact ⟨⟨j + 1, by simp, by omega, by trivial⟩, by simp [valOf]; omega⟩
theorem fits_any (sz a m : Int) (hz : 0 ≤ sz ∧ sz ≤ 128) (ha : I64 a) (hm : I64 m) (w : World) :
    Calls Tryd.prog 74 #[.int .i64 sz, .int .i64 a, .int .i64 m] w fun e w' => e = .returned (.bool (decide (0 ≤ a ∧ 0 ≤ m ∧ a + m ≤ sz))) ∧ w' = w := by
  obtain ⟨ha1, ha2⟩ := ha
  by_cases h1 : 0 ≤ a
  · have d1 : decide (0 ≤ a) = true := decide_eq_true h1
    by_cases h2 : 0 ≤ m
    · have d2 : decide (0 ≤ m) = true := decide_eq_true h2
      by_cases h3 : a ≤ sz
      · have d3 : decide (a ≤ sz) = true := decide_eq_true h3
        have hw : IntKind.i64.wrap (sz - a) = sz - a := IntWalk.i64_in _ (by omega)
        have d4 : decide (m ≤ sz - a) = decide (0 ≤ a ∧ 0 ≤ m ∧ a + m ≤ sz) := by rw [decide_eq_decide]; omega
        generalize decide (0 ≤ a ∧ 0 ≤ m ∧ a + m ≤ sz) = q at d4 ⊢
        go_enter Tryd.func74, Tryd.ntmps74
        go_wp2
        all_goals go_returns
        all_goals exact ⟨rfl, rfl⟩
      · have d3 : decide (a ≤ sz) = false := decide_eq_false h3
        rw [decide_eq_false (by omega)]
        go_enter Tryd.func74, Tryd.ntmps74
        go_wp2
        all_goals go_returns
        all_goals exact ⟨rfl, rfl⟩
    · have d2 : decide (0 ≤ m) = false := decide_eq_false h2
      rw [decide_eq_false (by omega)]
      go_enter Tryd.func74, Tryd.ntmps74
      go_wp2
      all_goals go_returns
      all_goals exact ⟨rfl, rfl⟩
  · have d1 : decide (0 ≤ a) = false := decide_eq_false h1
    rw [decide_eq_false (by omega)]
    go_enter Tryd.func74, Tryd.ntmps74
    go_wp2
    all_goals go_returns
    all_goals exact ⟨rfl, rfl⟩
/-- What the slots use. -/
def dUse : List Ds → Int
  | [] => 0
  | x :: l => clsM x.2.length + dUse l
theorem dUse_app : ∀ l m : List Ds, dUse (l ++ m) = dUse l + dUse m
  | [], m => by simp [dUse]
  | x :: l, m => by rw [List.cons_append, dUse, dUse, dUse_app l m]; omega
theorem dUse_bd : ∀ l : List Ds, 0 ≤ dUse l ∧ dUse l ≤ 128 * l.length
  | [] => by simp [dUse]
  | x :: l => by have := dUse_bd l; have := clsM_bd (x.2.length : Int); rw [dUse, List.length_cons]; omega
theorem dused_any (w : World) (B r : Nat) (room : Int) (S : List Ds) (v : Value) (h : Rs w B r room S v) :
    Calls Tryd.prog 20 #[.pointer (some ⟨r, 0, none⟩)] w fun e w' => e = .returned (.int .i64 (dUse S)) ∧ w' = w := by
  have hl := h.len
  obtain ⟨p, c, rfl⟩ := row_shape h.row
  have c1 : w.cell? ⟨r, 1, none⟩ = some (.slice p S.length c) := by rw [cell_of h.cells]; rfl
  go_enter Tryd.func20, Tryd.ntmps20
  go_wp2
  go_loopw [3, 4] (fun n3 n4 wr => ∃ j : Nat, n4 = .int .i64 j ∧ n3 = .int .i64 (dUse (S.take j)) ∧ j ≤ S.length ∧ wr = w) (fun _ n4 _ => S.length - (valOf n4).toNat)
  case atStart => exact ⟨0, rfl, by simp [dUse], by omega, rfl⟩
  case round =>
    obtain ⟨j, rfl, rfl, hj, hw⟩ := hrel
    rw [hw]; clear hw
    by_cases hin : j < S.length
    · have d : decide ((j : Int) < S.length) = true := by simp; omega
      have e9 : IntKind.i64.wrap ((j : Int) + 1) = (j : Int) + 1 := IntWalk.i64_in _ (by omega)
      obtain ⟨g, x, hx, hgl, hgo, hc0, hc1, hai⟩ := idx92 h.row hin (by omega)
      have hbd := dUse_bd (S.take j)
      rw [List.length_take] at hbd
      have hcl := clsM_bd (x.2.length : Int)
      have e8 : IntKind.i64.wrap (dUse (S.take j) + clsM x.2.length) = dUse (S.take j) + clsM x.2.length := IntWalk.i64_in _ (by omega)
      have hsz : ((strOfNums x.2).size : Int) = (x.2.length : Int) := by rw [strOfNums_size]
      have hnx : dUse (S.take (j + 1)) = dUse (S.take j) + clsM x.2.length := by rw [List.take_add_one, hx, dUse_app]; simp [dUse]
      have k1 := rclass_any ((strOfNums x.2).size : Int) w
      rw [hsz] at k1
      replace hnx : Hid _ := hnx
      go_wp2_with (go_at_call 43; refine k1.mono ?_; rintro e w' ⟨rfl, hw⟩; rw [hw]; clear hw)
      exact ⟨⟨j + 1, by simp, by rw [hnx.out], by omega, by trivial⟩, by simp [valOf]; omega⟩
    · have d : decide ((j : Int) < S.length) = false := by simp; omega
      obtain rfl : j = S.length := by omega
      rw [List.take_length]
      go_wp2
      all_goals go_returns
      exact ⟨rfl, rfl⟩
end Go.Proofs.YtooblonafnlfcaaDoor
