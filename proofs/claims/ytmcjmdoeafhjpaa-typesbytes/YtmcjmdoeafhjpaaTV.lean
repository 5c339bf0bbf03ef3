/- Towards the statements of package types (layer 10): Small. -/
import Derived.Test.YtmcjmdoeafhjpaaTU
namespace Go.Proofs.Ytmcjmdoeafhjpaa
open Go.ChangeShapes Go.WideShapes Go.ChangeAt
open Go.RowKit Go.Shelf
set_option linter.unusedVariables false
set_option linter.unusedSimpArgs false
set_option maxRecDepth 20000
abbrev nFd : Fd := ⟨⟨#[110]⟩, 3, 0, 0, 0⟩
abbrev lFd : Fd := ⟨⟨#[108]⟩, 7, 0, 0, 0⟩
abbrev hFd : Fd := ⟨⟨#[104]⟩, 2, 8, 0, 0⟩
abbrev aTy (b : Nat) : Ty := ⟨⟨#[97]⟩, 24, some ⟨b, 0, none⟩, 1, [nFd]⟩
abbrev mTy (b : Nat) : Ty := ⟨⟨#[109]⟩, 32, some ⟨b + 1, 0, none⟩, 2, [lFd, hFd]⟩
def smallL (b : Nat) : List Ty := [aTy b, mTy b]
theorem fdok (x : Fd) (h1 : x.n.size ≤ 100) (h2 : 0 ≤ x.k ∧ x.k ≤ 255) (h3 : 0 ≤ x.a ∧ x.a ≤ 255) (h4 : 0 ≤ x.o ∧ x.o ≤ 255) (h5 : 0 ≤ x.d ∧ x.d ≤ 255) : x.ok := ⟨by unfold maxLen; omega, h2, ⟨by omega, by omega⟩, ⟨by omega, by omega⟩, ⟨by omega, by omega⟩⟩
theorem flds1 {W : World} {b : Nat} {x : Fd} (h : W.heap[b]? = some (.cells #[.string x.n, .int .u8 x.k, .int .i64 x.a, .int .i64 x.o, .int .i64 x.d] 48 (0, 0))) (hx : x.ok) : Flds W (some ⟨b, 0, none⟩) [x] := by
  refine ⟨by simpa using hx, by simp [maxLen], .inr ⟨_, _, rfl, ch_lt h, fun j y hy => ?_⟩⟩
  match j, hy with
  | 0, hy =>
    simp at hy
    subst hy
    refine ⟨?_, ?_, ?_, ?_, ?_⟩ <;> rw [cell_at h] <;> rfl
theorem flds2 {W : World} {b : Nat} {x y : Fd} (h : W.heap[b]? = some (.cells #[.string x.n, .int .u8 x.k, .int .i64 x.a, .int .i64 x.o, .int .i64 x.d, .string y.n, .int .u8 y.k, .int .i64 y.a, .int .i64 y.o, .int .i64 y.d] 48 (0, 0))) (hx : x.ok) (hy : y.ok) : Flds W (some ⟨b, 0, none⟩) [x, y] ∧ Flds W (some ⟨b, 5, none⟩) [y] := by
  refine ⟨⟨by simp [hx, hy], by simp [maxLen], .inr ⟨_, _, rfl, ch_lt h, fun j z hz => ?_⟩⟩, ⟨by simp [hy], by simp [maxLen], .inr ⟨_, _, rfl, ch_lt h, fun j z hz => ?_⟩⟩⟩
  · match j, hz with
    | 0, hz =>
      simp at hz
      subst hz
      refine ⟨?_, ?_, ?_, ?_, ?_⟩ <;> rw [cell_at h] <;> rfl
    | 1, hz =>
      simp at hz
      subst hz
      refine ⟨?_, ?_, ?_, ?_, ?_⟩ <;> rw [cell_at h] <;> rfl
  · match j, hz with
    | 0, hz =>
      simp at hz
      subst hz
      refine ⟨?_, ?_, ?_, ?_, ?_⟩ <;> rw [cell_at h] <;> rfl
theorem tys2 {W : World} {g : Nat} {t u : Ty} (h : W.heap[g]? = some (.cells #[.string t.n, .int .i64 t.s, .slice t.p t.fs.length t.c, .string u.n, .int .i64 u.s, .slice u.p u.fs.length u.c] 42 (0, 0))) (ht : t.ok W) (hu : u.ok W) : Tys W (some ⟨g, 0, none⟩) [t, u] := by
  refine ⟨by simp [ht, hu], by simp [maxLen], .inr ⟨_, _, rfl, ch_lt h, fun j z hz => ?_⟩⟩
  match j, hz with
  | 0, hz =>
    simp at hz
    subst hz
    refine ⟨?_, ?_, ?_⟩ <;> rw [cell_at h] <;> rfl
  | 1, hz =>
    simp at hz
    subst hz
    refine ⟨?_, ?_, ?_⟩ <;> rw [cell_at h] <;> rfl
/-- The small table, as it was made. -/
structure Sm (B : Nat) (W : World) : Prop where
  a : W.heap[B]? = some (.cells #[.string ⟨#[110]⟩, .int .u8 3, .int .i64 0, .int .i64 0, .int .i64 0] 48 (0, 0))
  m : W.heap[B + 1]? = some (.cells #[.string ⟨#[108]⟩, .int .u8 7, .int .i64 0, .int .i64 0, .int .i64 0, .string ⟨#[104]⟩, .int .u8 2, .int .i64 8, .int .i64 0, .int .i64 0] 48 (0, 0))
  t : W.heap[B + 2]? = some (.cells #[.string ⟨#[97]⟩, .int .i64 24, .slice (some ⟨B, 0, none⟩) 1 1, .string ⟨#[109]⟩, .int .i64 32, .slice (some ⟨B + 1, 0, none⟩) 2 2] 42 (0, 0))
theorem Sm.gr {B : Nat} {w w' : World} (h : Sm B w) (hb : Bl w w') : Sm B w' := ⟨it_keep (w := w) h.a hb, it_keep (w := w) h.m hb, it_keep (w := w) h.t hb⟩
theorem nok : nFd.ok := fdok _ (by decide) (by decide) (by decide) (by decide) (by decide)
theorem lok : lFd.ok := fdok _ (by decide) (by decide) (by decide) (by decide) (by decide)
theorem hok : hFd.ok := fdok _ (by decide) (by decide) (by decide) (by decide) (by decide)
theorem Sm.aok {B : Nat} {w : World} (h : Sm B w) : (aTy B).ok w := ⟨by simp [maxLen, ByteArray.size], ⟨by dsimp only; decide, by dsimp only; decide⟩, ⟨by simp, by simp [maxLen]⟩, flds1 (x := nFd) h.a nok⟩
theorem Sm.mok {B : Nat} {w : World} (h : Sm B w) : (mTy B).ok w := ⟨by simp [maxLen, ByteArray.size], ⟨by dsimp only; decide, by dsimp only; decide⟩, ⟨by simp, by simp [maxLen]⟩, (flds2 (x := lFd) (y := hFd) h.m lok hok).1⟩
theorem Sm.tys {B : Nat} {w : World} (h : Sm B w) : Tys w (some ⟨B + 2, 0, none⟩) (smallL B) := tys2 (t := aTy B) (u := mTy B) h.t h.aok h.mok
theorem small_any (w : World) : Calls Try.prog 25 #[] w fun e w' => e = .returned (.slice (some ⟨w.heap.size + 2, 0, none⟩) 2 2) ∧ Sm w.heap.size w' ∧ Bl w w' := by
  go_enter Try.func25, Try.ntmps25
  go_wp2
  go_returns
  obtain ⟨q0, q1, q2⟩ := alloc3 w (.cells #[.string ⟨#[110]⟩, .int .u8 3, .int .i64 0, .int .i64 0, .int .i64 0] 48) (.cells #[.string ⟨#[108]⟩, .int .u8 7, .int .i64 0, .int .i64 0, .int .i64 0, .string ⟨#[104]⟩, .int .u8 2, .int .i64 8, .int .i64 0, .int .i64 0] 48) (.cells #[.string ⟨#[97]⟩, .int .i64 24, .slice (some ⟨w.heap.size, 0, none⟩) 1 1, .string ⟨#[109]⟩, .int .i64 32, .slice (some ⟨w.heap.size + 1, 0, none⟩) 2 2] 42)
  exact ⟨rfl, ⟨q0, q1, q2⟩, by go_grown⟩
theorem chk_small (b : Nat) : chkM (smallL b) = (0, 0, 0) := by kernel_rfl
theorem dec_small (b : Nat) : decM (encM (smallL b)) = some ((smallL b).map Ty.core) := by kernel_rfl
theorem dec_small' (b : Nat) : decM (encM (smallL b) ++ [120]) = none := by kernel_rfl
theorem are_small (b : Nat) : areB (smallL b) = true := by kernel_rfl
theorem fit_small (b : Nat) : Fit (smallL b) := by
  intro t ht
  simp [smallL] at ht
  rcases ht with rfl | rfl
  · exact ⟨by show (1 : Nat) ≤ 1048576; decide, by intro x hx; simp at hx; subst hx; decide⟩
  · exact ⟨by show (1 : Nat) ≤ 1048576; decide, by intro x hx; simp at hx; rcases hx with rfl | rfl <;> decide⟩
end Go.Proofs.Ytmcjmdoeafhjpaa
