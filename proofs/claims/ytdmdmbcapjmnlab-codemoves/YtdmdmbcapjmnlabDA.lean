/- Towards the statements of package code (layer 8): some answers that the document fixes: contract of alive. -/
import Derived.Test.YtdmdmbcapjmnlabCZ
namespace Go.Proofs.Ytdmdmbcapjmnlab
open Go.ChangeShapes Go.WideShapes Go.ChangeAt
open Go.RowKit Go.Shelf
open Go.PlainAid (bt get_bt bt_nonneg bt_le bt_end)
set_option linter.unusedVariables false
set_option linter.unusedSimpArgs false
set_option maxRecDepth 20000
theorem slots_blk {W : World} {b : Nat} {L : List Sl} {cap : Nat} (h : W.heap[b]? = some (.cells (L.flatMap Sl.cells).toArray 30)) (hok : ∀ x ∈ L, x.ok) (hl : L.length ≤ 4096) : Slots AnyB W (.slice (some ⟨b, 0, none⟩) L.length cap) L := by
  have hc : ∀ (j : Nat) (v : Value), (L.flatMap Sl.cells)[j]? = some v → W.cell? ⟨b, j, none⟩ = some v := fun j v hj => by unfold World.cell?; rw [h]; simpa using hj
  refine ⟨hok, hl, .inr ⟨b, 0, cap, rfl, trivial, ch_lt h, fun j x hx => ?_⟩⟩
  obtain ⟨a0, a1, a2, a3, a4⟩ := fl5_get L j x hx
  rw [Nat.zero_add]
  exact ⟨hc _ _ a0, hc _ _ a1, hc _ _ a2, hc _ _ a3, hc _ _ a4⟩
theorem mov_any (w : World) : Calls Try.prog 6 #[] w fun e w' => e = .returned (.agg #[.int .u8 183, .int .u8 0, .int .u8 0, .int .i16 0, .int .i32 0]) ∧ Below w.heap.size w w' := by
  go_enter Try.func6, Try.ntmps6
  go_wp2_with fail
  go_returns
  exact ⟨rfl, (Below.refl _ w).alloc (Nat.le_refl _) _⟩
theorem exit_any (w : World) : Calls Try.prog 9 #[] w fun e w' => e = .returned (.agg #[.int .u8 149, .int .u8 0, .int .u8 0, .int .i16 0, .int .i32 0]) ∧ Below w.heap.size w w' := by
  go_enter Try.func9, Try.ntmps9
  go_wp2_with fail
  go_returns
  exact ⟨rfl, (Below.refl _ w).alloc (Nat.le_refl _) _⟩
/-- Check at a program that lies in new memory. -/
theorem check_new (L : List Sl) (hok : ∀ x ∈ L, x.ok) (hl : L.length ≤ 4096) (W : World) : Calls Try.prog 5 #[.slice (some ⟨W.heap.size, 0, none⟩) L.length L.length] (W.alloc (.cells (L.flatMap Sl.cells).toArray 30)) fun e w' => ∃ v, e = .returned (.tuple #[v, .int .i64 (chkM L).1, .int .i64 (chkM L).2]) ∧ ((chkM L).2 = 0 → ∃ sb, W.heap.size ≤ sb ∧ SubsAt w' sb v (slM L)) ∧ ((chkM L).2 ≠ 0 → v = .slice none 0 0) ∧ Below W.heap.size W w' := by
  have hb : Below W.heap.size W (W.alloc (.cells (L.flatMap Sl.cells).toArray 30)) := (Below.refl _ W).alloc (Nat.le_refl _) _
  refine (check_any _ L _ (slots_blk (World.alloc_heap_new W _) hok hl)).mono ?_
  rintro e w' ⟨v, rfl, h1, h2, h3⟩
  refine ⟨v, rfl, fun h => ?_, h2, hb.trans (h3.mono hb.size)⟩
  obtain ⟨sb, h4, h5⟩ := h1 h
  exact ⟨sb, Nat.le_trans hb.size h4, h5⟩
theorem okAll : (∀ x ∈ lA, x.ok) ∧ (∀ x ∈ lB, x.ok) ∧ (∀ x ∈ lC, x.ok) ∧ (∀ x ∈ lD, x.ok) ∧ (∀ x ∈ lE, x.ok) := by
  refine ⟨?_, ?_, ?_, ?_, ?_⟩ <;> (intro x hx; simp [lA, lB, lC, lD, lE, slMov, slExit] at hx; unfold Sl.ok; rcases hx with rfl | rfl | rfl | rfl <;> decide)
theorem ckA (W : World) : Calls Try.prog 5 #[.slice (some ⟨W.heap.size, 0, none⟩) 2 2] (W.alloc (.cells #[.int .u8 183, .int .u8 0, .int .u8 0, .int .i16 0, .int .i32 0, .int .u8 149, .int .u8 0, .int .u8 0, .int .i16 0, .int .i32 0] 30)) fun e w' => ∃ sb c, e = .returned (.tuple #[.slice (some ⟨sb, 0, none⟩) 1 c, .int .i64 0, .int .i64 0]) ∧ sb < w'.heap.size ∧ w'.cell? ⟨sb, 1, none⟩ = some (.int .i64 2) ∧ Below W.heap.size W w' := by
  refine (check_new lA okAll.1 (by decide) W).mono ?_
  rintro e w' ⟨v, rfl, h1, _, h3⟩
  rw [chkA] at h1 ⊢
  obtain ⟨sb, h4, h5⟩ := h1 rfl
  rw [slA] at h5
  obtain ⟨c, rfl⟩ := h5.val
  exact ⟨sb, c, rfl, h5.lt, (h5.cell 0 (0, 2) rfl).2, h3⟩
theorem ckB (W : World) : Calls Try.prog 5 #[.slice (some ⟨W.heap.size, 0, none⟩) 1 1] (W.alloc (.cells #[.int .u8 183, .int .u8 0, .int .u8 0, .int .i16 0, .int .i32 0] 30)) fun e w' => e = .returned (.tuple #[.slice none 0 0, .int .i64 0, .int .i64 82]) ∧ Below W.heap.size W w' := by
  refine (check_new lB okAll.2.1 (by decide) W).mono ?_
  rintro e w' ⟨v, rfl, _, h2, h3⟩
  rw [chkB] at h2 ⊢
  rw [h2 (by decide)]
  exact ⟨rfl, h3⟩
theorem ckC (W : World) : Calls Try.prog 5 #[.slice (some ⟨W.heap.size, 0, none⟩) 2 2] (W.alloc (.cells #[.int .u8 5, .int .u8 0, .int .u8 0, .int .i16 (-1), .int .i32 0, .int .u8 149, .int .u8 0, .int .u8 0, .int .i16 0, .int .i32 0] 30)) fun e w' => e = .returned (.tuple #[.slice none 0 0, .int .i64 1, .int .i64 84]) ∧ Below W.heap.size W w' := by
  refine (check_new lC okAll.2.2.1 (by decide) W).mono ?_
  rintro e w' ⟨v, rfl, _, h2, h3⟩
  rw [chkC] at h2 ⊢
  rw [h2 (by decide)]
  exact ⟨rfl, h3⟩
theorem ckD (W : World) : Calls Try.prog 5 #[.slice (some ⟨W.heap.size, 0, none⟩) 4 4] (W.alloc (.cells #[.int .u8 133, .int .u8 0, .int .u8 1, .int .i16 0, .int .i32 1, .int .u8 149, .int .u8 0, .int .u8 0, .int .i16 0, .int .i32 0, .int .u8 183, .int .u8 0, .int .u8 0, .int .i16 0, .int .i32 0, .int .u8 149, .int .u8 0, .int .u8 0, .int .i16 0, .int .i32 0] 30)) fun e w' => ∃ sb c, e = .returned (.tuple #[.slice (some ⟨sb, 0, none⟩) 2 c, .int .i64 0, .int .i64 0]) ∧ sb < w'.heap.size ∧ w'.cell? ⟨sb, 2, none⟩ = some (.int .i64 2) ∧ Below W.heap.size W w' := by
  refine (check_new lD okAll.2.2.2.1 (by decide) W).mono ?_
  rintro e w' ⟨v, rfl, h1, _, h3⟩
  rw [chkD] at h1 ⊢
  obtain ⟨sb, h4, h5⟩ := h1 rfl
  rw [slD] at h5
  obtain ⟨c, rfl⟩ := h5.val
  exact ⟨sb, c, rfl, h5.lt, (h5.cell 1 (2, 4) rfl).1, h3⟩
theorem ckE (W : World) : Calls Try.prog 5 #[.slice (some ⟨W.heap.size, 0, none⟩) 2 2] (W.alloc (.cells #[.int .u8 133, .int .u8 0, .int .u8 1, .int .i16 0, .int .i32 (-1), .int .u8 149, .int .u8 0, .int .u8 0, .int .i16 0, .int .i32 0] 30)) fun e w' => e = .returned (.tuple #[.slice none 0 0, .int .i64 0, .int .i64 83]) ∧ Below W.heap.size W w' := by
  refine (check_new lE okAll.2.2.2.2 (by decide) W).mono ?_
  rintro e w' ⟨v, rfl, _, h2, h3⟩
  rw [chkE] at h2 ⊢
  rw [h2 (by decide)]
  exact ⟨rfl, h3⟩
theorem ck0 (W : World) : Calls Try.prog 5 #[.slice none 0 0] W fun e w' => e = .returned (.tuple #[.slice none 0 0, .int .i64 0, .int .i64 2]) ∧ Below W.heap.size W w' := by
  refine (check_any (.slice none 0 0) [] W ⟨by simp, by simp, .inl ⟨⟨none, 0, rfl⟩, rfl⟩⟩).mono ?_
  rintro e w' ⟨v, rfl, _, h2, h3⟩
  rw [chk0] at h2 ⊢
  rw [h2 (by decide)]
  exact ⟨rfl, h3⟩
def encA : ByteArray := ⟨(encL lA).toArray⟩
theorem ceA (W : World) : Calls Try.prog 11 #[.slice (some ⟨W.heap.size, 0, none⟩) 2 2] (W.alloc (.cells #[.int .u8 183, .int .u8 0, .int .u8 0, .int .i16 0, .int .i32 0, .int .u8 149, .int .u8 0, .int .u8 0, .int .i16 0, .int .i32 0] 30)) fun e w' => e = .returned (.string encA) ∧ Below W.heap.size W w' := by
  have hb : Below W.heap.size W (W.alloc (.cells #[.int .u8 183, .int .u8 0, .int .u8 0, .int .i16 0, .int .i32 0, .int .u8 149, .int .u8 0, .int .u8 0, .int .i16 0, .int .i32 0] 30)) := (Below.refl _ W).alloc (Nat.le_refl _) _
  refine (cencode_any _ lA _ (slots_blk (World.alloc_heap_new W _) okAll.1 (by decide))).mono ?_
  rintro e w' ⟨rfl, h⟩
  exact ⟨rfl, hb.trans (h.mono hb.size)⟩
theorem decA : decL encA 2 = lA := by decide +kernel
theorem sizeA : encA.size = 8 * 2 := by decide +kernel
end Go.Proofs.Ytdmdmbcapjmnlab
