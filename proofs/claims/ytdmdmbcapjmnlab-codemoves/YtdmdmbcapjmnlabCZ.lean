/- Towards the statements of package code (layer 8): Decode: the program of bytes. -/
import Derived.Test.YtdmdmbcapjmnlabCY
namespace Go.Proofs.Ytdmdmbcapjmnlab
open Go.ChangeShapes Go.WideShapes Go.ChangeAt
open Go.RowKit Go.Shelf
open Go.PlainAid (bt get_bt bt_nonneg bt_le bt_end)
set_option linter.unusedVariables false
set_option linter.unusedSimpArgs false
set_option maxRecDepth 20000
/-- The instruction of eight bytes. -/
def decSl (t : ByteArray) : Sl := ⟨bt t 0, bt t 1 % 16, bt t 1 / 16, offV t, immV t⟩
def decL (s : ByteArray) (n : Nat) : List Sl := (List.range n).map fun k => decSl (s.extract (k * 8) ((k + 1) * 8))
def zSl : Sl := ⟨0, 0, 0, 0, 0⟩
def Sl.cells (x : Sl) : List Value := [.int .u8 x.o, .int .u8 x.d, .int .u8 x.s, .int .i16 x.f, .int .i32 x.i]
theorem flat_set : ∀ (M : List Sl) (k : Nat) (x : Sl), k < M.length → ((((((M.flatMap Sl.cells).set (k * 5) (.int .u8 x.o)).set (k * 5 + 1) (.int .u8 x.d)).set (k * 5 + 2) (.int .u8 x.s)).set (k * 5 + 3) (.int .i16 x.f)).set (k * 5 + 4) (.int .i32 x.i)) = (M.set k x).flatMap Sl.cells
  | [], k, x, h => by simp at h
  | y :: M, 0, x, h => by simp [Sl.cells]
  | y :: M, k + 1, x, h => by
    have := flat_set M k x (by simpa using h)
    have e : ∀ j, (k + 1) * 5 + j = (k * 5 + j) + 5 := fun j => by omega
    have e0 : (k + 1) * 5 = k * 5 + 5 := by omega
    simp only [List.flatMap_cons, List.set_cons_succ, e, e0, Sl.cells, List.cons_append, List.nil_append, List.set_cons_succ]
    rw [← this]
theorem fl5_get : ∀ (M : List Sl) (k : Nat) (x : Sl), M[k]? = some x → (M.flatMap Sl.cells)[k * 5]? = some (.int .u8 x.o) ∧ (M.flatMap Sl.cells)[k * 5 + 1]? = some (.int .u8 x.d) ∧ (M.flatMap Sl.cells)[k * 5 + 2]? = some (.int .u8 x.s) ∧ (M.flatMap Sl.cells)[k * 5 + 3]? = some (.int .i16 x.f) ∧ (M.flatMap Sl.cells)[k * 5 + 4]? = some (.int .i32 x.i)
  | [], k, x, h => by simp at h
  | y :: M, 0, x, h => by simp at h; subst h; simp [Sl.cells]
  | y :: M, k + 1, x, h => by
    have := fl5_get M k x (by simpa using h)
    have e : ∀ j, (k + 1) * 5 + j = (k * 5 + j) + 5 := fun j => by omega
    have e0 : (k + 1) * 5 = k * 5 + 5 := by omega
    simp only [List.flatMap_cons, e, e0, Sl.cells, List.cons_append, List.nil_append, List.getElem?_cons_succ]
    exact this
theorem info53 : (Try.prog.info? 30).map (fun i => (i.zero, i.size, i.bytes)) = some (some (.agg #[.int .u8 0, .int .u8 0, .int .u8 0, .int .i16 0, .int .i32 0]), 5, 12) := by kernel_rfl
theorem made5 (n : Nat) : (madeCells (Value.agg #[.int .u8 0, .int .u8 0, .int .u8 0, .int .i16 0, .int .i32 0]).cells (n * 5)).toList = (List.replicate n zSl).flatMap Sl.cells := by
  apply List.ext_getElem?
  intro i
  rcases Nat.lt_or_ge i (n * 5) with h | h
  · obtain ⟨k, j, hj, rfl⟩ : ∃ k j, j < 5 ∧ i = k * 5 + j := ⟨i / 5, i % 5, by omega, by omega⟩
    have hk : (List.replicate n zSl)[k]? = some zSl := by rw [List.getElem?_replicate, if_pos (by omega)]
    obtain ⟨a0, a1, a2, a3, a4⟩ := fl5_get _ k zSl hk
    have hm : (k * 5 + j) % 5 = j := by omega
    have hl : (madeCells (Value.agg #[.int .u8 0, .int .u8 0, .int .u8 0, .int .i16 0, .int .i32 0]).cells (n * 5)).toList[k * 5 + j]? = some ((#[.int .u8 0, .int .u8 0, .int .u8 0, .int .i16 0, .int .i32 0] : Array Value)[j]!) := by
      simp [madeCells, Value.cells, h, hm]
    rw [hl]
    rcases (show j = 0 ∨ j = 1 ∨ j = 2 ∨ j = 3 ∨ j = 4 by omega) with rfl | rfl | rfl | rfl | rfl
    · exact a0.symm
    · exact a1.symm
    · exact a2.symm
    · exact a3.symm
    · exact a4.symm
  · have hlen : ∀ M : List Sl, (M.flatMap Sl.cells).length = M.length * 5 := by
      intro M
      induction M with
      | nil => rfl
      | cons x t ih => simp [Sl.cells, ih]; omega
    rw [List.getElem?_eq_none (by rw [Array.length_toList, size_madeCells]; exact h), List.getElem?_eq_none (by rw [hlen, List.length_replicate]; exact h)]
theorem cdecode_form (s : ByteArray) (h : s.size % 8 ≠ 0) (w : World) : Calls Try.prog 10 #[.string s] w fun e w' => e = .returned (.tuple #[.slice none 0 0, .int .i64 8]) ∧ w' = w := by
  have e1 : ((s.size : Int) % 8 != 0) = true := by simp; omega
  go_enter Try.func10, Try.ntmps10
  go_wp2_with fail
  go_returns
  exact ⟨rfl, rfl⟩
theorem cdecode_long (s : ByteArray) (n : Nat) (h : s.size = 8 * n) (h2 : 1024 < n) (h3 : n ≤ 1000000) (w : World) : Calls Try.prog 10 #[.string s] w fun e w' => e = .returned (.tuple #[.slice none 0 0, .int .i64 4]) ∧ w' = w := by
  have e1 : ((s.size : Int) % 8 != 0) = false := by simp; omega
  have e2 : wrap64 ((s.size : Int) / 8) = n := by rw [show (s.size : Int) / 8 = n by omega]; exact IntWalk.wrap64_in (n : Int) (by omega)
  have e3 : decide ((1024 : Int) < n) = true := by simp; omega
  clear h
  go_enter Try.func10, Try.ntmps10
  go_wp2_with fail
  go_returns
  exact ⟨rfl, rfl⟩
set_option maxHeartbeats 4000000 in
theorem cdecode_ok (s : ByteArray) (n : Nat) (h : s.size = 8 * n) (h2 : n ≤ 1024) (w : World) : Calls Try.prog 10 #[.string s] w fun e w' => e = .returned (.tuple #[.slice (some ⟨w.heap.size, 0, none⟩) n n, .int .i64 0]) ∧ w'.heap[w.heap.size]? = some (.cells ((decL s n).flatMap Sl.cells).toArray 30) ∧ Below w.heap.size w w' := by
  have e1 : ((s.size : Int) % 8 != 0) = false := by simp; omega
  have e2 : wrap64 ((s.size : Int) / 8) = n := by rw [show (s.size : Int) / 8 = n by omega]; exact IntWalk.wrap64_in (n : Int) (by omega)
  have e3 : decide ((1024 : Int) < n) = false := by simp; omega
  obtain ⟨i0, hi, hz0, hz1, hz2⟩ := info_parts info53
  have hsz := h
  clear h
  go_enter Try.func10, Try.ntmps10
  go_wp2_with first | (refine wpList_make_full _ rfl _ _ 22 rfl w.heap.size 30 i0 (.agg #[.int .u8 0, .int .u8 0, .int .u8 0, .int .i16 0, .int .i32 0]) 5 Try.underlying22 hi hz0 hz1 _ _ _ _ n rfl rfl rfl rfl (by rw [hz2]; omega) (by simp [maxLen]; omega) (Nat.le_refl _) ?_; intro w1 hown hgrow; have hb1 := (Below.refl w.heap.size w).grown hgrow (Nat.le_refl _) (fun k e => by cases e))
  have hblk : w1.heap[w.heap.size]? = some (.cells ((List.replicate n zSl).flatMap Sl.cells).toArray 30) := by
    rcases hown.2 with ⟨e, _⟩ | ⟨g, cap, cur, e, _, hg, _, _, hs, ht⟩
    · cases e
    · cases e
      refine hg.trans ?_
      rw [made5, List.take_of_length_le (by simp [hs])] at ht
      rw [← ht]
  clear hown hgrow hi hz0 hz1 hz2
  go_loopw [20] (fun i wr => ∃ k : Nat, i = .int .i64 k ∧ k ≤ n ∧ wr.heap[w.heap.size]? = some (.cells ((decL s k ++ List.replicate (n - k) zSl).flatMap Sl.cells).toArray 30) ∧ Below w.heap.size w wr) (fun i _ => n - (intOf i).toNat)
  case atStart => exact ⟨0, rfl, by omega, by simpa [decL] using hblk, hb1⟩
  case round =>
    obtain ⟨k, rfl, hk1, hB, hb⟩ := hrel
    by_cases hlt : k < n
    · have hd : decide ((k : Int) < n) = true := by simp; omega
      have hd2 : decide ((0 : Int) ≤ (k : Int) ∧ (k : Int) < (n : Int)) = true := by simp; omega
      have w1 : wrap64 ((k : Int) * 8) = ((8 * k : Nat) : Int) := by rw [IntWalk.wrap64_in _ (by omega)]; omega
      have w2 : wrap64 ((k : Int) + 1) = ((k + 1 : Nat) : Int) := by rw [IntWalk.wrap64_in _ (by omega)]; omega
      have w3 : wrap64 (((k + 1 : Nat) : Int) * 8) = ((8 * k + 8 : Nat) : Int) := by rw [IntWalk.wrap64_in _ (by omega)]; omega
      have kd := fun W => decode_8 (s.extract (k * 8) ((k + 1) * 8)) (by simp; omega) W
      have hM : (decL s k ++ List.replicate (n - k) zSl).length = n := by simp [decL]; omega
      obtain ⟨y, hy⟩ : ∃ y, (decL s k ++ List.replicate (n - k) zSl)[k]? = some y := ⟨_, List.getElem?_eq_getElem (by omega)⟩
      have hcl := fl5_get _ k y hy
      have hset := flat_set (decL s k ++ List.replicate (n - k) zSl) k (decSl (s.extract (k * 8) ((k + 1) * 8))) (by omega)
      have hfin : (decL s k ++ List.replicate (n - k) zSl).set k (decSl (s.extract (k * 8) ((k + 1) * 8))) = decL s (k + 1) ++ List.replicate (n - (k + 1)) zSl := by
        have hdk : (decL s k).length = k := by simp [decL]
        rw [List.set_append_right _ _ (by omega), hdk, Nat.sub_self, show n - k = (n - (k + 1)) + 1 by omega, List.replicate_succ, List.set_cons_zero]
        simp [decL, List.range_succ]
      generalize decL s k ++ List.replicate (n - k) zSl = M at hB hcl hset hfin hM hy
      obtain ⟨a0, a1, a2, a3, a4⟩ := hcl
      have hcell : ∀ (W : World), W.heap[w.heap.size]? = some (.cells (M.flatMap Sl.cells).toArray 30) → ∀ (j : Nat) (v : Value), (M.flatMap Sl.cells)[j]? = some v → W.cell? ⟨w.heap.size, j, none⟩ = some v := fun W hW j v hj => by unfold World.cell?; rw [hW]; simpa using hj
      have hfro : ∀ (W : World), W.heap[w.heap.size]? = some (.cells (M.flatMap Sl.cells).toArray 30) → ∀ j : Nat, W.frozen? ⟨w.heap.size, j, none⟩ = false := fun W hW j => by simp [World.frozen?, hW]
      generalize (M.flatMap Sl.cells) = F at hB a0 a1 a2 a3 a4 hcell hfro hset
      go_wp2_with first | (go_at_call 19; refine (kd _).mono ?_; rintro e W2 ⟨rfl, hg⟩; have hB2 := (hg.below.block _ (ch_lt hB)).trans hB; have c0 := hcell W2 hB2 _ _ a0; have c1 := hcell W2 hB2 _ _ a1; have c2 := hcell W2 hB2 _ _ a2; have c3 := hcell W2 hB2 _ _ a3; have c4 := hcell W2 hB2 _ _ a4; have f0 := hfro W2 hB2 (k * 5); have f1 := hfro W2 hB2 (k * 5 + 1); have f2 := hfro W2 hB2 (k * 5 + 2); have f3 := hfro W2 hB2 (k * 5 + 3); have f4 := hfro W2 hB2 (k * 5 + 4); have hb2 := hb.trans (hg.below.mono hb.size))
      refine ⟨⟨k + 1, by simp, by omega, ?_, (((((hb2.setCell (p := ⟨w.heap.size, _, none⟩) (Nat.le_refl _) _).setCell (p := ⟨w.heap.size, _, none⟩) (Nat.le_refl _) _).setCell (p := ⟨w.heap.size, _, none⟩) (Nat.le_refl _) _).setCell (p := ⟨w.heap.size, _, none⟩) (Nat.le_refl _) _).setCell (p := ⟨w.heap.size, _, none⟩) (Nat.le_refl _) _)⟩, by simp [intOf]; omega⟩
      rw [← hfin, ← hset]
      refine (set_at (set_at (set_at (set_at (set_at hB2 (k * 5) _) (k * 5 + 1) _) (k * 5 + 2) _) (k * 5 + 3) _) (k * 5 + 4) _).trans ?_
      simp [decSl]
    · have hd : decide ((k : Int) < n) = false := by simp; omega
      obtain rfl : k = n := by omega
      go_wp2_with fail
      go_returns
      exact ⟨rfl, by simpa using hB, hb⟩
end Go.Proofs.Ytdmdmbcapjmnlab
