/- Towards the statements of package bound (layer 5): three rounds, as the program does them: the rounds. -/
import Derived.Test.YtcbcijibgpaipaaGreatMF
import Derived.Deep.DeepCutAuto
namespace Go.Proofs.YtcbcijibgpaipaaGreat
open Go.ChangeShapes Go.WideShapes Go.ChangeAt Go.RowKit
open Tn (iv)
set_option linter.unusedVariables false
set_option maxRecDepth 20000

theorem rnd_step {b c d : Bd} {k : Nat} (h : rnd b k = some c) (h2 : chain c 11 = some d) : rnd b (k + 1) = some d := by
  rw [chain_all] at h2
  rw [rnd, h]
  exact h2
set_option maxHeartbeats 8000000 in
theorem sync_go (b r : Bd) (hrr : Hid (syncM b = r)) (h0 : nn b.ul b.uh b.sl b.sh b.wl b.wh b.vl b.vh = false) (h1 : (b.tv &&& b.tm == 0#64) = true) (h2 : (decide (b.wh < b.wl) || ((decide (0 ≤ b.wl) && decide (b.wl ≤ 4294967295)) && (decide (0 ≤ b.wh) && decide (b.wh ≤ 4294967295)))) = true) (h3 : ((decide (-2147483648 ≤ b.vl) && decide (b.vl ≤ 2147483647)) && (decide (-2147483648 ≤ b.vh) && decide (b.vh ≤ 2147483647))) = true) (hb : Hid (badM b = false)) (hgd : Hid (Good b)) (w : World) : Calls Tryz.prog 11 #[.agg #[.int .u64 (iv b.tv), .int .u64 (iv b.tm), .int .u64 b.ul, .int .u64 b.uh, .int .i64 b.sl, .int .i64 b.sh, .int .u64 b.wl, .int .u64 b.wh, .int .i64 b.vl, .int .i64 b.vh]] w fun e w' => e = .returned (.agg #[.int .u64 (iv r.tv), .int .u64 (iv r.tm), .int .u64 r.ul, .int .u64 r.uh, .int .i64 r.sl, .int .i64 r.sh, .int .u64 r.wl, .int .u64 r.wh, .int .i64 r.vl, .int .i64 r.vh]) ∧ Gr w w' := by
  have HA : Hid (AtA ((w.alloc (.cells #[.int .u64 (iv b.tv), .int .u64 (iv b.tm), .int .u64 b.ul, .int .u64 b.uh, .int .i64 b.sl, .int .i64 b.sh, .int .u64 b.wl, .int .u64 b.wh, .int .i64 b.vl, .int .i64 b.vh] 30)).alloc (.cells #[.int .u64 0, .int .u64 0, .int .u64 0, .int .u64 0, .int .i64 0, .int .i64 0, .int .u64 0, .int .u64 0, .int .i64 0, .int .i64 0] 30)) w.heap.size (cB b) 30) := (AtA.newb _ rfl _ _).alloc _
  have HR : Hid (AtA ((w.alloc (.cells #[.int .u64 (iv b.tv), .int .u64 (iv b.tm), .int .u64 b.ul, .int .u64 b.uh, .int .i64 b.sl, .int .i64 b.sh, .int .u64 b.wl, .int .u64 b.wh, .int .i64 b.vl, .int .i64 b.vh] 30)).alloc (.cells #[.int .u64 0, .int .u64 0, .int .u64 0, .int .u64 0, .int .i64 0, .int .i64 0, .int .u64 0, .int .u64 0, .int .i64 0, .int .i64 0] 30)) (w.heap.size + 1) #[.int .u64 0, .int .u64 0, .int .u64 0, .int .u64 0, .int .i64 0, .int .i64 0, .int .u64 0, .int .u64 0, .int .i64 0, .int .i64 0] 30) := AtA.newb _ (by simp) _ _
  have HF : Hid (Gr w ((w.alloc (.cells #[.int .u64 (iv b.tv), .int .u64 (iv b.tm), .int .u64 b.ul, .int .u64 b.uh, .int .i64 b.sl, .int .i64 b.sh, .int .u64 b.wl, .int .u64 b.wh, .int .i64 b.vl, .int .i64 b.vh] 30)).alloc (.cells #[.int .u64 0, .int .u64 0, .int .u64 0, .int .u64 0, .int .i64 0, .int .i64 0, .int .u64 0, .int .u64 0, .int .i64 0, .int .i64 0] 30))) := (⟨by go_grown, by go_grown⟩ : Gr w _)
  have p0 : ∀ p : GrBy ((w.alloc (.cells #[.int .u64 (iv b.tv), .int .u64 (iv b.tm), .int .u64 b.ul, .int .u64 b.uh, .int .i64 b.sl, .int .i64 b.sh, .int .u64 b.wl, .int .u64 b.wh, .int .i64 b.vl, .int .i64 b.vh] 30)).alloc (.cells #[.int .u64 0, .int .u64 0, .int .u64 0, .int .u64 0, .int .i64 0, .int .i64 0, .int .u64 0, .int .u64 0, .int .i64 0, .int .i64 0] 30)), p.to.cell? ⟨w.heap.size, 0, none⟩ = some (.int .u64 (iv b.tv)) := fun p => by have h := (HA.out.gr p.gr).cell 0; simpa only [List.getElem?_toArray, List.getElem?_cons_zero, List.getElem?_cons_succ] using h
  have p1 : ∀ p : GrBy ((w.alloc (.cells #[.int .u64 (iv b.tv), .int .u64 (iv b.tm), .int .u64 b.ul, .int .u64 b.uh, .int .i64 b.sl, .int .i64 b.sh, .int .u64 b.wl, .int .u64 b.wh, .int .i64 b.vl, .int .i64 b.vh] 30)).alloc (.cells #[.int .u64 0, .int .u64 0, .int .u64 0, .int .u64 0, .int .i64 0, .int .i64 0, .int .u64 0, .int .u64 0, .int .i64 0, .int .i64 0] 30)), p.to.cell? ⟨w.heap.size, 1, none⟩ = some (.int .u64 (iv b.tm)) := fun p => by have h := (HA.out.gr p.gr).cell 1; simpa only [List.getElem?_toArray, List.getElem?_cons_zero, List.getElem?_cons_succ] using h
  have p2 : ∀ p : GrBy ((w.alloc (.cells #[.int .u64 (iv b.tv), .int .u64 (iv b.tm), .int .u64 b.ul, .int .u64 b.uh, .int .i64 b.sl, .int .i64 b.sh, .int .u64 b.wl, .int .u64 b.wh, .int .i64 b.vl, .int .i64 b.vh] 30)).alloc (.cells #[.int .u64 0, .int .u64 0, .int .u64 0, .int .u64 0, .int .i64 0, .int .i64 0, .int .u64 0, .int .u64 0, .int .i64 0, .int .i64 0] 30)), p.to.cell? ⟨w.heap.size, 2, none⟩ = some (.int .u64 b.ul) := fun p => by have h := (HA.out.gr p.gr).cell 2; simpa only [List.getElem?_toArray, List.getElem?_cons_zero, List.getElem?_cons_succ] using h
  have p3 : ∀ p : GrBy ((w.alloc (.cells #[.int .u64 (iv b.tv), .int .u64 (iv b.tm), .int .u64 b.ul, .int .u64 b.uh, .int .i64 b.sl, .int .i64 b.sh, .int .u64 b.wl, .int .u64 b.wh, .int .i64 b.vl, .int .i64 b.vh] 30)).alloc (.cells #[.int .u64 0, .int .u64 0, .int .u64 0, .int .u64 0, .int .i64 0, .int .i64 0, .int .u64 0, .int .u64 0, .int .i64 0, .int .i64 0] 30)), p.to.cell? ⟨w.heap.size, 3, none⟩ = some (.int .u64 b.uh) := fun p => by have h := (HA.out.gr p.gr).cell 3; simpa only [List.getElem?_toArray, List.getElem?_cons_zero, List.getElem?_cons_succ] using h
  have p4 : ∀ p : GrBy ((w.alloc (.cells #[.int .u64 (iv b.tv), .int .u64 (iv b.tm), .int .u64 b.ul, .int .u64 b.uh, .int .i64 b.sl, .int .i64 b.sh, .int .u64 b.wl, .int .u64 b.wh, .int .i64 b.vl, .int .i64 b.vh] 30)).alloc (.cells #[.int .u64 0, .int .u64 0, .int .u64 0, .int .u64 0, .int .i64 0, .int .i64 0, .int .u64 0, .int .u64 0, .int .i64 0, .int .i64 0] 30)), p.to.cell? ⟨w.heap.size, 4, none⟩ = some (.int .i64 b.sl) := fun p => by have h := (HA.out.gr p.gr).cell 4; simpa only [List.getElem?_toArray, List.getElem?_cons_zero, List.getElem?_cons_succ] using h
  have p5 : ∀ p : GrBy ((w.alloc (.cells #[.int .u64 (iv b.tv), .int .u64 (iv b.tm), .int .u64 b.ul, .int .u64 b.uh, .int .i64 b.sl, .int .i64 b.sh, .int .u64 b.wl, .int .u64 b.wh, .int .i64 b.vl, .int .i64 b.vh] 30)).alloc (.cells #[.int .u64 0, .int .u64 0, .int .u64 0, .int .u64 0, .int .i64 0, .int .i64 0, .int .u64 0, .int .u64 0, .int .i64 0, .int .i64 0] 30)), p.to.cell? ⟨w.heap.size, 5, none⟩ = some (.int .i64 b.sh) := fun p => by have h := (HA.out.gr p.gr).cell 5; simpa only [List.getElem?_toArray, List.getElem?_cons_zero, List.getElem?_cons_succ] using h
  have p6 : ∀ p : GrBy ((w.alloc (.cells #[.int .u64 (iv b.tv), .int .u64 (iv b.tm), .int .u64 b.ul, .int .u64 b.uh, .int .i64 b.sl, .int .i64 b.sh, .int .u64 b.wl, .int .u64 b.wh, .int .i64 b.vl, .int .i64 b.vh] 30)).alloc (.cells #[.int .u64 0, .int .u64 0, .int .u64 0, .int .u64 0, .int .i64 0, .int .i64 0, .int .u64 0, .int .u64 0, .int .i64 0, .int .i64 0] 30)), p.to.cell? ⟨w.heap.size, 6, none⟩ = some (.int .u64 b.wl) := fun p => by have h := (HA.out.gr p.gr).cell 6; simpa only [List.getElem?_toArray, List.getElem?_cons_zero, List.getElem?_cons_succ] using h
  have p7 : ∀ p : GrBy ((w.alloc (.cells #[.int .u64 (iv b.tv), .int .u64 (iv b.tm), .int .u64 b.ul, .int .u64 b.uh, .int .i64 b.sl, .int .i64 b.sh, .int .u64 b.wl, .int .u64 b.wh, .int .i64 b.vl, .int .i64 b.vh] 30)).alloc (.cells #[.int .u64 0, .int .u64 0, .int .u64 0, .int .u64 0, .int .i64 0, .int .i64 0, .int .u64 0, .int .u64 0, .int .i64 0, .int .i64 0] 30)), p.to.cell? ⟨w.heap.size, 7, none⟩ = some (.int .u64 b.wh) := fun p => by have h := (HA.out.gr p.gr).cell 7; simpa only [List.getElem?_toArray, List.getElem?_cons_zero, List.getElem?_cons_succ] using h
  have p8 : ∀ p : GrBy ((w.alloc (.cells #[.int .u64 (iv b.tv), .int .u64 (iv b.tm), .int .u64 b.ul, .int .u64 b.uh, .int .i64 b.sl, .int .i64 b.sh, .int .u64 b.wl, .int .u64 b.wh, .int .i64 b.vl, .int .i64 b.vh] 30)).alloc (.cells #[.int .u64 0, .int .u64 0, .int .u64 0, .int .u64 0, .int .i64 0, .int .i64 0, .int .u64 0, .int .u64 0, .int .i64 0, .int .i64 0] 30)), p.to.cell? ⟨w.heap.size, 8, none⟩ = some (.int .i64 b.vl) := fun p => by have h := (HA.out.gr p.gr).cell 8; simpa only [List.getElem?_toArray, List.getElem?_cons_zero, List.getElem?_cons_succ] using h
  have p9 : ∀ p : GrBy ((w.alloc (.cells #[.int .u64 (iv b.tv), .int .u64 (iv b.tm), .int .u64 b.ul, .int .u64 b.uh, .int .i64 b.sl, .int .i64 b.sh, .int .u64 b.wl, .int .u64 b.wh, .int .i64 b.vl, .int .i64 b.vh] 30)).alloc (.cells #[.int .u64 0, .int .u64 0, .int .u64 0, .int .u64 0, .int .i64 0, .int .i64 0, .int .u64 0, .int .u64 0, .int .i64 0, .int .i64 0] 30)), p.to.cell? ⟨w.heap.size, 9, none⟩ = some (.int .i64 b.vh) := fun p => by have h := (HA.out.gr p.gr).cell 9; simpa only [List.getElem?_toArray, List.getElem?_cons_zero, List.getElem?_cons_succ] using h
  have hne : Nonempty (GrBy ((w.alloc (.cells #[.int .u64 (iv b.tv), .int .u64 (iv b.tm), .int .u64 b.ul, .int .u64 b.uh, .int .i64 b.sl, .int .i64 b.sh, .int .u64 b.wl, .int .u64 b.wh, .int .i64 b.vl, .int .i64 b.vh] 30)).alloc (.cells #[.int .u64 0, .int .u64 0, .int .u64 0, .int .u64 0, .int .i64 0, .int .i64 0, .int .u64 0, .int .u64 0, .int .i64 0, .int .i64 0] 30))) := ⟨⟨_, Gr.refl _⟩⟩
  go_enter Tryz.func11, Tryz.ntmps11
  go_wp2_with fail
  refine wp_region_gr (by kernel_rfl) (by kernel_rfl) ?_
  (try simp only [List.append_eq, List.cons_append, List.nil_append])
  repeat (first
    | go_big_quiet_skip
    | (go_big_quiet_want; go_big_quiet_op; first
      | go_big_quiet_on
      | (apply Exists.intro
         refine ⟨fun p => ?_, ?_⟩
         · first
             | (go_at_call 15; exact calls_gr (None_q _ _ _ _ _ _ _ _ _ _ _ (by with_reducible assumption) _))
             | (go_at_call 42; exact calls_gr (may_q _ _ _ (by with_reducible assumption) _))
             | (go_at_call 44; exact calls_gr (half_gr _))
             | (go_at_call 43; exact calls_gr (spanIn_q _ _ _ _ _ (by with_reducible assumption) _))
             | (go_at_call 46; exact calls_gr (shalf_gr _))
             | (go_at_call 45; exact calls_gr (within_q _ _ _ _ _ (by with_reducible assumption) _))
         go_big_quiet_on)))
  refine wpQuiet_nil ?_
  intro _ hw'
  obtain ⟨q, rfl⟩ := hw'
  clear p0 p1 p2 p3 p4 p5 p6 p7 p8 p9
  have hsz : w.heap.size + 2 ≤ q.to.heap.size := by
    have := q.gr.below.size
    simp at this
    omega
  go_wp2_with (first
    | (go_at_call 48; refine (steps_any _).mono ?_; rintro e w1 ⟨rfl, hw⟩; rw [hw]; clear hw))
  have HA1 : Hid (AtA (q.to.alloc (.cells #[.func (.func 92) #[] #[], .func (.func 95) #[] #[], .func (.func 98) #[] #[], .func (.func 100) #[] #[], .func (.func 102) #[] #[], .func (.func 105) #[] #[], .func (.func 106) #[] #[], .func (.func 107) #[] #[], .func (.func 109) #[] #[], .func (.func 111) #[] #[], .func (.func 113) #[] #[]] 77)) w.heap.size (cB b) 30) := (HA.out.gr q.gr).alloc _
  have HR1 : Hid (AtA (q.to.alloc (.cells #[.func (.func 92) #[] #[], .func (.func 95) #[] #[], .func (.func 98) #[] #[], .func (.func 100) #[] #[], .func (.func 102) #[] #[], .func (.func 105) #[] #[], .func (.func 106) #[] #[], .func (.func 107) #[] #[], .func (.func 109) #[] #[], .func (.func 111) #[] #[], .func (.func 113) #[] #[]] 77)) (w.heap.size + 1) #[.int .u64 0, .int .u64 0, .int .u64 0, .int .u64 0, .int .i64 0, .int .i64 0, .int .u64 0, .int .u64 0, .int .i64 0, .int .i64 0] 30) := (HR.out.gr q.gr).alloc _
  have HQ1 : Hid (AtA (q.to.alloc (.cells #[.func (.func 92) #[] #[], .func (.func 95) #[] #[], .func (.func 98) #[] #[], .func (.func 100) #[] #[], .func (.func 102) #[] #[], .func (.func 105) #[] #[], .func (.func 106) #[] #[], .func (.func 107) #[] #[], .func (.func 109) #[] #[], .func (.func 111) #[] #[], .func (.func 113) #[] #[]] 77)) q.to.heap.size #[.func (.func 92) #[] #[], .func (.func 95) #[] #[], .func (.func 98) #[] #[], .func (.func 100) #[] #[], .func (.func 102) #[] #[], .func (.func 105) #[] #[], .func (.func 106) #[] #[], .func (.func 107) #[] #[], .func (.func 109) #[] #[], .func (.func 111) #[] #[], .func (.func 113) #[] #[]] 77) := AtA.newb _ rfl _ _
  have HF1 : Hid (Gr w (q.to.alloc (.cells #[.func (.func 92) #[] #[], .func (.func 95) #[] #[], .func (.func 98) #[] #[], .func (.func 100) #[] #[], .func (.func 102) #[] #[], .func (.func 105) #[] #[], .func (.func 106) #[] #[], .func (.func 107) #[] #[], .func (.func 109) #[] #[], .func (.func 111) #[] #[], .func (.func 113) #[] #[]] 77))) := (HF.out.trans q.gr).alloc _ _
  clear HA HR HF
  revert HA1 HR1 HQ1 HF1 hsz
  generalize (q.to.alloc (.cells #[.func (.func 92) #[] #[], .func (.func 95) #[] #[], .func (.func 98) #[] #[], .func (.func 100) #[] #[], .func (.func 102) #[] #[], .func (.func 105) #[] #[], .func (.func 106) #[] #[], .func (.func 107) #[] #[], .func (.func 109) #[] #[], .func (.func 111) #[] #[], .func (.func 113) #[] #[]] 77)) = Y
  generalize q.to.heap.size = X
  intro hsz HA1 HR1 HQ1 HF1
  go_loopw [30] (fun i wr => ∃ (k : Nat) (c : Bd), k ≤ 3 ∧ i = .int .i64 k ∧ rnd b k = some c ∧ Good c ∧ AtA wr w.heap.size (cB c) 30 ∧ AtA wr (w.heap.size + 1) #[.int .u64 0, .int .u64 0, .int .u64 0, .int .u64 0, .int .i64 0, .int .i64 0, .int .u64 0, .int .u64 0, .int .i64 0, .int .i64 0] 30 ∧ AtA wr X #[.func (.func 92) #[] #[], .func (.func 95) #[] #[], .func (.func 98) #[] #[], .func (.func 100) #[] #[], .func (.func 102) #[] #[], .func (.func 105) #[] #[], .func (.func 106) #[] #[], .func (.func 107) #[] #[], .func (.func 109) #[] #[], .func (.func 111) #[] #[], .func (.func 113) #[] #[]] 77 ∧ Gr w wr) (fun i _ => 3 - (intOf i).toNat)
  case atStart => exact ⟨0, b, by omega, rfl, rfl, hgd.out, HA1.out, HR1.out, HQ1.out, HF1.out⟩
  case round =>
    obtain ⟨k, c, hk, rfl, hr, g, ha, hz, hf, hg⟩ := hrel
    have HC : Hid (rnd b k = some c) := hr
    have HD : Hid (Good c) := g
    have HA : Hid (AtA wr w.heap.size (cB c) 30) := ha
    have HZ : Hid (AtA wr (w.heap.size + 1) #[.int .u64 0, .int .u64 0, .int .u64 0, .int .u64 0, .int .i64 0, .int .i64 0, .int .u64 0, .int .u64 0, .int .i64 0, .int .i64 0] 30) := hz
    have HQ : Hid (AtA wr X #[.func (.func 92) #[] #[], .func (.func 95) #[] #[], .func (.func 98) #[] #[], .func (.func 100) #[] #[], .func (.func 102) #[] #[], .func (.func 105) #[] #[], .func (.func 106) #[] #[], .func (.func 107) #[] #[], .func (.func 109) #[] #[], .func (.func 111) #[] #[], .func (.func 113) #[] #[]] 77) := hf
    have HG : Hid (Gr w wr) := hg
    clear hr g ha hz hf hg HA1 HR1 HQ1 HF1
    by_cases hlt : k < 3
    · have ht : decide ((k : Int) < 3) = true := by simp; omega
      go_wp2_with fail
      go_loopw [34] (fun i wr => ∃ (j : Nat) (d : Bd), j ≤ 11 ∧ i = .int .i64 j ∧ chain c j = some d ∧ Good d ∧ AtA wr w.heap.size (cB d) 30 ∧ AtA wr (w.heap.size + 1) #[.int .u64 0, .int .u64 0, .int .u64 0, .int .u64 0, .int .i64 0, .int .i64 0, .int .u64 0, .int .u64 0, .int .i64 0, .int .i64 0] 30 ∧ AtA wr X #[.func (.func 92) #[] #[], .func (.func 95) #[] #[], .func (.func 98) #[] #[], .func (.func 100) #[] #[], .func (.func 102) #[] #[], .func (.func 105) #[] #[], .func (.func 106) #[] #[], .func (.func 107) #[] #[], .func (.func 109) #[] #[], .func (.func 111) #[] #[], .func (.func 113) #[] #[]] 77 ∧ Gr w wr) (fun i _ => 11 - (intOf i).toNat)
      case atStart => exact ⟨0, c, by omega, rfl, rfl, HD.out, HA.out, HZ.out, HQ.out, HG.out⟩
      case round =>
        obtain ⟨j, d, hj, rfl, hr, g, ha, hz, hf, hg⟩ := hrel
        have HJ : Hid (chain c j = some d) := hr
        replace HD : Hid (Good d) := g
        replace HA : Hid (AtA wr w.heap.size (cB d) 30) := ha
        replace HZ : Hid (AtA wr (w.heap.size + 1) #[.int .u64 0, .int .u64 0, .int .u64 0, .int .u64 0, .int .i64 0, .int .i64 0, .int .u64 0, .int .u64 0, .int .i64 0, .int .i64 0] 30) := hz
        replace HQ : Hid (AtA wr X #[.func (.func 92) #[] #[], .func (.func 95) #[] #[], .func (.func 98) #[] #[], .func (.func 100) #[] #[], .func (.func 102) #[] #[], .func (.func 105) #[] #[], .func (.func 106) #[] #[], .func (.func 107) #[] #[], .func (.func 109) #[] #[], .func (.func 111) #[] #[], .func (.func 113) #[] #[]] 77) := hf
        replace HG : Hid (Gr w wr) := hg
        clear hr g ha hz hf hg
        by_cases hjt : j < 11
        · have cc := HQ.out.cell j
          rw [fn_at j hjt] at cc
          have hj0 : (0 : Int) ≤ (j : Int) := by omega
          have hj1 : (j : Int) < 11 := by omega
          have hj2 : decide ((j : Int) < 11) = true := decide_eq_true hj1
          go_upto_region 9 with fail
          refine reg9_any j hjt _ rfl w.heap.size d HD.out wr HA.out _ _ _ _ _ _ _ _ _ _ _ _ _ _ _ _ _ _ _ _ _ _ _ _ _ _ _ _ _ _ _ _ _ _ _ _ _ _ _ _ _ _ _ _ ?_ ?_
          · intro hs w1 hX
            have hS : Hid (r = nothingM) := hrr.out.symm.trans (sync_stop hb.out HC.out (round_stop HJ.out hs hjt) hlt)
            have hz1 : Hid (AtA w1 (w.heap.size + 1) _ 30) := HZ.out.grx hX (by omega)
            have hg1 : Hid (Gr w w1) := hX.gr w HG.out (by omega)
            clear hX hs
            go_wp2_with (first
              | (go_at_call 47; refine (nothing_gr _).mono ?_; rintro e w2 ⟨rfl, hg⟩; have hr : Hid (AtA w2 (w.heap.size + 1) _ 30) := hz1.out.gr hg; have hG : Hid (Gr w w2) := hg1.out.trans hg; clear hg
                 have f0 := (hr.out).f 0
                 have f1 := (hr.out).f 1
                 have f2 := (hr.out).f 2
                 have f3 := (hr.out).f 3
                 have f4 := (hr.out).f 4
                 have f5 := (hr.out).f 5
                 have f6 := (hr.out).f 6
                 have f7 := (hr.out).f 7
                 have f8 := (hr.out).f 8
                 have f9 := (hr.out).f 9
                 have d0 := (hr.out).cell 0
                 have d1 := (hr.out).cell 1
                 have d2 := (hr.out).cell 2
                 have d3 := (hr.out).cell 3
                 have d4 := (hr.out).cell 4
                 have d5 := (hr.out).cell 5
                 have d6 := (hr.out).cell 6
                 have d7 := (hr.out).cell 7
                 have d8 := (hr.out).cell 8
                 have d9 := (hr.out).cell 9
                 simp only [List.getElem?_toArray, List.getElem?_cons_zero, List.getElem?_cons_succ] at d0 d1 d2 d3 d4 d5 d6 d7 d8 d9
                 have hz := (((((((((((hr.out).st 0 (.int .u64 0)).st 1 (.int .u64 0)).st 2 (.int .u64 1)).st 3 (.int .u64 0)).st 4 (.int .i64 1)).st 5 (.int .i64 0)).st 6 (.int .u64 1)).st 7 (.int .u64 0)).st 8 (.int .i64 1)).st 9 (.int .i64 0))
                 simp only [zs, z0, z1] at hz
                 have e0 := hz.cell 0
                 have e1 := hz.cell 1
                 have e2 := hz.cell 2
                 have e3 := hz.cell 3
                 have e4 := hz.cell 4
                 have e5 := hz.cell 5
                 have e6 := hz.cell 6
                 have e7 := hz.cell 7
                 have e8 := hz.cell 8
                 have e9 := hz.cell 9
                 simp only [List.getElem?_toArray, List.getElem?_cons_zero, List.getElem?_cons_succ] at e0 e1 e2 e3 e4 e5 e6 e7 e8 e9
                 clear hz
))
            refine bodyPost_ret (by simp [results, Tryz.results11, go_sem, e0, e1, e2, e3, e4, e5, e6, e7, e8, e9]; try rfl) rfl ?_
            exact ⟨by rw [hS.out]; rfl, ((((((((((hG.out.set (by omega) _).set (by omega) _).set (by omega) _).set (by omega) _).set (by omega) _).set (by omega) _).set (by omega) _).set (by omega) _).set (by omega) _).set (by omega) _)⟩
          · intro d2 hs w1 hA1 hX
            have ha1 : Hid (AtA w1 w.heap.size (cB d2) 30) := hA1
            have hz1 : Hid (AtA w1 (w.heap.size + 1) _ 30) := HZ.out.grx hX (by omega)
            have hq1 : Hid (AtA w1 X _ 77) := HQ.out.grx hX (by omega)
            have hg1 : Hid (Gr w w1) := hX.gr w HG.out (by omega)
            have HS : Hid (stN j d = some d2) := hs
            clear hX hA1 hs
            go_wp2_with fail
            go_roundw
            case rel =>
              exact ⟨j + 1, d2, by omega, by go_num, by rw [chain, HJ.out]; exact HS.out, HD.out.step HS.out, ha1.out, hz1.out, hq1.out, hg1.out⟩
            case measure => simp [intOf]; omega
        · obtain rfl : j = 11 := by omega
          go_wp2_with fail
          go_roundw
          case rel =>
            exact ⟨k + 1, d, by omega, by go_num, rnd_step HC.out HJ.out, HD.out, HA.out, HZ.out, HQ.out, HG.out⟩
          case measure => simp [intOf]; omega
    · obtain rfl : k = 3 := by omega
      have hS : Hid (r = c) := hrr.out.symm.trans (sync_done hb.out HC.out)
      have a0 := HA.out.cell 0
      have a1 := HA.out.cell 1
      have a2 := HA.out.cell 2
      have a3 := HA.out.cell 3
      have a4 := HA.out.cell 4
      have a5 := HA.out.cell 5
      have a6 := HA.out.cell 6
      have a7 := HA.out.cell 7
      have a8 := HA.out.cell 8
      have a9 := HA.out.cell 9
      simp only [List.getElem?_toArray, List.getElem?_cons_zero, List.getElem?_cons_succ] at a0 a1 a2 a3 a4 a5 a6 a7 a8 a9
      have f0 := (HZ.out).f 0
      have f1 := (HZ.out).f 1
      have f2 := (HZ.out).f 2
      have f3 := (HZ.out).f 3
      have f4 := (HZ.out).f 4
      have f5 := (HZ.out).f 5
      have f6 := (HZ.out).f 6
      have f7 := (HZ.out).f 7
      have f8 := (HZ.out).f 8
      have f9 := (HZ.out).f 9
      have d0 := (HZ.out).cell 0
      have d1 := (HZ.out).cell 1
      have d2 := (HZ.out).cell 2
      have d3 := (HZ.out).cell 3
      have d4 := (HZ.out).cell 4
      have d5 := (HZ.out).cell 5
      have d6 := (HZ.out).cell 6
      have d7 := (HZ.out).cell 7
      have d8 := (HZ.out).cell 8
      have d9 := (HZ.out).cell 9
      simp only [List.getElem?_toArray, List.getElem?_cons_zero, List.getElem?_cons_succ] at d0 d1 d2 d3 d4 d5 d6 d7 d8 d9
      have hz := (((((((((((HZ.out).st 0 (.int .u64 (iv c.tv))).st 1 (.int .u64 (iv c.tm))).st 2 (.int .u64 c.ul)).st 3 (.int .u64 c.uh)).st 4 (.int .i64 c.sl)).st 5 (.int .i64 c.sh)).st 6 (.int .u64 c.wl)).st 7 (.int .u64 c.wh)).st 8 (.int .i64 c.vl)).st 9 (.int .i64 c.vh))
      simp only [zs, z0, z1] at hz
      have e0 := hz.cell 0
      have e1 := hz.cell 1
      have e2 := hz.cell 2
      have e3 := hz.cell 3
      have e4 := hz.cell 4
      have e5 := hz.cell 5
      have e6 := hz.cell 6
      have e7 := hz.cell 7
      have e8 := hz.cell 8
      have e9 := hz.cell 9
      simp only [List.getElem?_toArray, List.getElem?_cons_zero, List.getElem?_cons_succ] at e0 e1 e2 e3 e4 e5 e6 e7 e8 e9
      clear hz

      go_wp2_with fail
      refine bodyPost_ret (by simp [results, Tryz.results11, go_sem, e0, e1, e2, e3, e4, e5, e6, e7, e8, e9]; try rfl) rfl ?_
      exact ⟨by rw [hS.out], ((((((((((HG.out.set (by omega) _).set (by omega) _).set (by omega) _).set (by omega) _).set (by omega) _).set (by omega) _).set (by omega) _).set (by omega) _).set (by omega) _).set (by omega) _)⟩
theorem sync_any (b : Bd) (h1 : InU b.ul) (h2 : InU b.uh) (h3 : InS b.sl) (h4 : InS b.sh) (w : World) : Calls Tryz.prog 11 #[.agg #[.int .u64 (iv b.tv), .int .u64 (iv b.tm), .int .u64 b.ul, .int .u64 b.uh, .int .i64 b.sl, .int .i64 b.sh, .int .u64 b.wl, .int .u64 b.wh, .int .i64 b.vl, .int .i64 b.vh]] w fun e w' => e = .returned (.agg #[.int .u64 (iv (syncM b).tv), .int .u64 (iv (syncM b).tm), .int .u64 (syncM b).ul, .int .u64 (syncM b).uh, .int .i64 (syncM b).sl, .int .i64 (syncM b).sh, .int .u64 (syncM b).wl, .int .u64 (syncM b).wh, .int .i64 (syncM b).vl, .int .i64 (syncM b).vh]) ∧ Gr w w' := by
  cases e0 : nn b.ul b.uh b.sl b.sh b.wl b.wh b.vl b.vh
  · have e0' : nnB b = false := e0
    have hw : decide (b.wh < b.wl) = false := by
      unfold nnB at e0'
      simp at e0' ⊢
      omega
    cases e1 : (b.tv &&& b.tm == 0#64)
    · rw [sync_bad (show badM b = true by unfold badM; rw [e0', e1]; rfl)]
      exact sync_b1 b e0 e1 w
    · cases e2 : (decide (b.wh < b.wl) || ((decide (0 ≤ b.wl) && decide (b.wl ≤ 4294967295)) && (decide (0 ≤ b.wh) && decide (b.wh ≤ 4294967295))))
      · have e2' : inR b.wl b.wh 0 4294967295 = false := by rw [hw] at e2; exact e2
        rw [sync_bad (show badM b = true by unfold badM; rw [e0', e1, e2']; rfl)]
        exact sync_b2 b e0 e1 e2 w
      · have e2' : inR b.wl b.wh 0 4294967295 = true := by rw [hw] at e2; exact e2
        cases e3 : ((decide (-2147483648 ≤ b.vl) && decide (b.vl ≤ 2147483647)) && (decide (-2147483648 ≤ b.vh) && decide (b.vh ≤ 2147483647)))
        · have e3' : inR b.vl b.vh (-2147483648) 2147483647 = false := e3
          rw [sync_bad (show badM b = true by unfold badM; rw [e0', e1, e2', e3']; rfl)]
          exact sync_b3 b e0 e1 e2 e3 w
        · have e3' : inR b.vl b.vh (-2147483648) 2147483647 = true := e3
          have hb : badM b = false := by unfold badM; rw [e0', e1, e2', e3']; rfl
          exact sync_go b (syncM b) rfl e0 e1 e2 e3 hb (good_of hb h1.1 h2.2 h3.1 h4.2) w
  · rw [sync_bad (show badM b = true by unfold badM; rw [show nnB b = true from e0]; rfl)]
    exact sync_b0 b e0 w
theorem sync_q (tv tm : BitVec 64) (ul uh sl sh wl wh vl vh : Int) (r : Bd) (hr : syncM ⟨tv, tm, ul, uh, sl, sh, wl, wh, vl, vh⟩ = r) (h1 : InU ul) (h2 : InU uh) (h3 : InS sl) (h4 : InS sh) (w : World) : Calls Tryz.prog 11 #[.agg #[.int .u64 (iv tv), .int .u64 (iv tm), .int .u64 ul, .int .u64 uh, .int .i64 sl, .int .i64 sh, .int .u64 wl, .int .u64 wh, .int .i64 vl, .int .i64 vh]] w fun e w' => e = .returned (.agg #[.int .u64 (iv r.tv), .int .u64 (iv r.tm), .int .u64 r.ul, .int .u64 r.uh, .int .i64 r.sl, .int .i64 r.sh, .int .u64 r.wl, .int .u64 r.wh, .int .i64 r.vl, .int .i64 r.vh]) ∧ Gr w w' := by
  subst hr
  exact sync_any ⟨tv, tm, ul, uh, sl, sh, wl, wh, vl, vh⟩ h1 h2 h3 h4 w
end Go.Proofs.YtcbcijibgpaipaaGreat
