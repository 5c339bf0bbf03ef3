/- Towards the statements of package code (layer 8): Check, the loop. -/
import Derived.Test.YtdmdmbcapjmnlabCT
namespace Go.Proofs.Ytdmdmbcapjmnlab
open Go.ChangeShapes Go.WideShapes Go.ChangeAt
open Go.RowKit Go.Shelf
set_option linter.unusedVariables false
set_option linter.unusedSimpArgs false
set_option maxRecDepth 20000

def rowV (Bp : Nat) : Array Value := ((List.range 8).map fun j => Value.func (.func (fnOf j)) #[] #[.pointer (some ⟨Bp, 0, none⟩)]).toArray
theorem checks_any (q : Option Addr) (w : World) : Calls Try.prog 12 #[.pointer q] w fun e w' => e = .returned (.slice (some ⟨w.heap.size + 1, 0, none⟩) 8 8) ∧ w' = (w.alloc (.cells #[.pointer q] 42)).alloc (.cells (rowV w.heap.size) 48) := by
  go_enter Try.func12, Try.ntmps12
  go_wp2_with fail
  go_returns
  exact ⟨by simp, rfl⟩
theorem chk_pass {L : List Sl} : ∀ (f n : Nat), (∀ m, m < n → (chkX L m).2 = 0) → n + f = 8 → chkM L = chkF L f n → (∀ m, n ≤ m → m < 8 → (chkX L m).2 = 0) → chkM L = (0, 0) := by
  intro f
  induction f with
  | zero => intro n h1 h2 h3 h4; exact h3
  | succ f ih =>
    intro n h1 h2 h3 h4
    rw [chkF, if_pos (h4 n (Nat.le_refl _) (by omega))] at h3
    exact ih (n + 1) (fun m hm => by
      rcases Nat.lt_or_ge m n with h | h
      · exact h1 m h
      · exact h4 m h (by omega)) (by omega) h3 (fun m hm h8 => h4 m (by omega) h8)
theorem chk_all {L : List Sl} (h : Passed L 8) : chkM L = (0, 0) := chk_pass 8 0 (fun m hm => by omega) rfl rfl (fun m _ h8 => h m h8)
theorem chk_at {L : List Sl} : ∀ (f n k : Nat), n + f = 8 → n ≤ k → k < 8 → (∀ m, n ≤ m → m < k → (chkX L m).2 = 0) → (chkX L k).2 ≠ 0 → chkF L f n = chkX L k := by
  intro f
  induction f with
  | zero => intro n k h1 h2 h3; omega
  | succ f ih =>
    intro n k h1 h2 h3 h4 h5
    rw [chkF]
    by_cases hn : n = k
    · rw [hn, if_neg h5]
    · rw [if_pos (h4 n (Nat.le_refl _) (by omega))]
      exact ih (n + 1) k (by omega) (by omega) h3 (fun m hm hk => h4 m (by omega) hk) h5
theorem chk_err {L : List Sl} {k : Nat} (hk : k < 8) (h : Passed L k) (he : (chkX L k).2 ≠ 0) : chkM L = chkX L k := chk_at 8 0 k rfl (by omega) hk (fun m _ hm => h m hm) he
theorem Passed.snoc {L : List Sl} {k : Nat} (h : Passed L k) (he : (chkX L k).2 = 0) : Passed L (k + 1) := fun m hm => by
  rcases Nat.lt_or_ge m k with h' | h'
  · exact h m h'
  · have : m = k := by omega
    rw [this]; exact he
theorem fn_ek (k : Nat) (hk : k < 8) : ∀ args w, (callFunc (fnOf k) args).run Try.prog w = .ok (.enter (fnOf k) args) w := by
  rcases (show k = 0 ∨ k = 1 ∨ k = 2 ∨ k = 3 ∨ k = 4 ∨ k = 5 ∨ k = 6 ∨ k = 7 by omega) with rfl | rfl | rfl | rfl | rfl | rfl | rfl | rfl
  · exact enters_of Try.func23 (by kernel_rfl) rfl
  · exact enters_of Try.func25 (by kernel_rfl) rfl
  · exact enters_of Try.func26 (by kernel_rfl) rfl
  · exact enters_of Try.func28 (by kernel_rfl) rfl
  · exact enters_of Try.func31 (by kernel_rfl) rfl
  · exact enters_of Try.func33 (by kernel_rfl) rfl
  · exact enters_of Try.func35 (by kernel_rfl) rfl
  · exact enters_of Try.func37 (by kernel_rfl) rfl
set_option maxHeartbeats 4000000 in
theorem check_any (sv : Value) (L : List Sl) (w : World) (hL : Slots AnyB w sv L) :
    Calls Try.prog 5 #[sv] w fun e w' => ∃ v, e = .returned (.tuple #[v, .int .i64 (chkM L).1, .int .i64 (chkM L).2]) ∧ ((chkM L).2 = 0 → ∃ sb, w.heap.size ≤ sb ∧ SubsAt w' sb v (slM L)) ∧ ((chkM L).2 ≠ 0 → v = .slice none 0 0) ∧ Below w.heap.size w w' := by
  have hLh := hL.here
  obtain ⟨p, c, rfl⟩ := hL.shape
  have k42 := fun W => checks_any (some ⟨w.heap.size, 0, none⟩) W
  go_enter Try.func5, Try.ntmps5
  go_upto_region 2 with fail
  have hb1 : Below w.heap.size w (w.alloc (.cells #[.slice p L.length c, .slice none 0 0, .slice none 0 0, .slice none 0 0] 45)) := (Below.refl _ w).alloc (Nat.le_refl _) _
  have hR1 : Rec (w.alloc (.cells #[.slice p L.length c, .slice none 0 0, .slice none 0 0, .slice none 0 0] 45)) w.heap.size (.slice p L.length c) (.slice none 0 0) (.slice none 0 0) (.slice none 0 0) := World.alloc_heap_new w _
  have hs1 : (w.alloc (.cells #[.slice p L.length c, .slice none 0 0, .slice none 0 0, .slice none 0 0] 45)).heap.size = w.heap.size + 1 := by simp
  have hL1 := hLh.keep (.of hb1 fun _ h => h) hb1.size
  generalize (w.alloc (.cells #[.slice p L.length c, .slice none 0 0, .slice none 0 0, .slice none 0 0] 45)) = w1 at hb1 hR1 hs1 hL1 ⊢
  have k42 := checks_any (some ⟨w.heap.size, 0, none⟩) w1
  rw [hs1] at k42
  have hbb : Below w1.heap.size w1 ((w1.alloc (.cells #[.pointer (some ⟨w.heap.size, 0, none⟩)] 42)).alloc (.cells (rowV (w.heap.size + 1)) 48)) := ((Below.refl _ w1).alloc (Nat.le_refl _) _).alloc (by simp) _
  have hph : Ph L w (.slice p L.length c) w.heap.size (w.heap.size + 1) 0 ((w1.alloc (.cells #[.pointer (some ⟨w.heap.size, 0, none⟩)] 42)).alloc (.cells (rowV (w.heap.size + 1)) 48)) := by
    refine ⟨hb1.trans (hbb.mono hb1.size), (hL1.mono fun b hb => by omega).gr hbb, Nat.le_refl _, ⟨by omega, by omega⟩, ?_, ?_, _, _, _, hR1.gr hbb, fun _ => rfl, fun h => by omega, fun h => by omega⟩
    · rw [← hs1]; exact (Below.heap_alloc _ _ _ (by simp)).trans (World.alloc_heap_new w1 _)
    · rw [← hs1]; have := World.alloc_heap_new (w1.alloc (.cells #[.pointer (some ⟨w.heap.size, 0, none⟩)] 42)) (.cells (rowV (w1.heap.size)) 48); rw [World.size_alloc] at this; exact this
  go_wp2_with first | (go_at_call 12; refine k42.mono ?_; rintro e w' ⟨rfl, hw⟩; subst hw)
  generalize ((w1.alloc (.cells #[.pointer (some ⟨w.heap.size, 0, none⟩)] 42)).alloc (.cells (rowV (w.heap.size + 1)) 48)) = w2 at hph hbb ⊢
  clear hbb k42 hR1 hL1 hs1 hb1 hL hLh
  go_loopw [16] (fun i wr => ∃ k : Nat, i = .int .i64 k ∧ k ≤ 8 ∧ Passed L k ∧ Ph L w (.slice p L.length c) w.heap.size (w.heap.size + 1) k wr) (fun i _ => 8 - (intOf i).toNat)
  case atStart => exact ⟨0, rfl, by omega, fun m hm => by omega, hph⟩
  case round =>
    obtain ⟨k, rfl, hk8, hpass, hP⟩ := hrel
    have hbel := hP.bel
    by_cases hk : k < 8
    · have hd : decide ((k : Int) < 8) = true := by simp; omega
      have hd2 : decide ((0 : Int) ≤ (k : Int) ∧ (k : Int) < 8) = true := by simp; omega
      have hcell : wr.cell? ⟨w.heap.size + 1 + 1, k, none⟩ = some (.func (.func (fnOf k)) #[] #[.pointer (some ⟨w.heap.size + 1, 0, none⟩)]) := by
        unfold World.cell?
        rw [hP.row]
        simp [hk]
      have hst := step_any L w (.slice p L.length c) w.heap.size (w.heap.size + 1) k hk hpass wr hP
      have hek := fn_ek k hk
      have e1 : IntKind.i64.wrap ((k : Int) + 1) = (k : Int) + 1 := IntWalk.i64_in _ (by omega)
      generalize hfn : fnOf k = fk at hcell hst hek
      unfold ans at hst
      by_cases hz : (chkX L k).2 = 0
      · have hq : (((chkX L k).2 : Int) == 0) = true := by simp [hz]
        go_wp2_with first | (refine hst.mono ?_; rintro e w' ⟨rfl, hph', hb'⟩)
        exact ⟨⟨k + 1, by simp, by omega, hpass.snoc hz, hph' hz⟩, by simp [intOf]; omega⟩
      · have hq : (((chkX L k).2 : Int) == 0) = false := by simpa using hz
        have hc := chk_err hk hpass hz
        go_wp2_with first | (refine hst.mono ?_; rintro e w' ⟨rfl, hph', hb'⟩)
        try rw [Exit.noGoto_ret]
        go_returns
        exact ⟨.slice none 0 0, by rw [hc]; rfl, fun h => absurd (hc ▸ h) hz, fun _ => rfl, hb'⟩
    · have hd : decide ((k : Int) < 8) = false := by simp; omega
      obtain rfl : k = 8 := by omega
      obtain ⟨vb, vs, vh, hR, _, _, h5⟩ := hP.rest
      obtain ⟨sb, hb, hl, hS, hH⟩ := h5 (by decide)
      obtain ⟨r0, r1, r2, r3⟩ := hR.cells
      have hc := chk_all hpass
      obtain ⟨cs, rfl⟩ := hS.val
      go_wp2_with fail
      go_returns
      exact ⟨_, by rw [hc]; rfl, fun _ => ⟨sb, hl, hS⟩, fun h => absurd (by rw [hc]) h, hbel⟩
end Go.Proofs.Ytdmdmbcapjmnlab
