/- Towards the statements of package insn (layer 7): registers in their order, each once: contract of rising, of two registers at most. -/
import Derived.Test.YthbmgfnifolcbaaKU
import Derived.Lib.SliceRun
namespace Go.Proofs.Ythbmgfnifolcbaa
open Go.ChangeShapes Go.WideShapes Go.ChangeAt Go.RowKit
set_option linter.unusedVariables false
set_option linter.unusedSimpArgs false
set_option maxRecDepth 20000

theorem values_any (a : Option Addr) (n c : Nat) (w : World) : Calls Try.prog 56 #[.slice a n c] w fun e w' => e = .returned (.func (.func 64) #[] #[.pointer (some ⟨w.heap.size, 0, none⟩)]) ∧ w' = w.alloc (.cells #[.slice a n c] 39) := by
  go_enter Try.func56, Try.ntmps56
  go_wp2
  go_returns
  exact ⟨rfl, rfl⟩
/-- What Collect hands back of the bytes xs. -/
def Own (w w' : World) (v : Value) (xs : List Int) : Prop := w'.ownsRow w.heap.size 5 1 v xs.length (xs.map (Value.int .u8)) ∧ (v = .slice none 0 0 ↔ xs = []) ∧ Below w.heap.size w w'
theorem append_any (Bs : Nat) (sv : Value) (xs : List Int) (hlen : xs.length ≤ 2) (w : World) (hBs : Bs < w.heap.size) (hc0 : w.cell? ⟨Bs, 0, none⟩ = some sv) (hL : Bytes8 w.heap.size w sv xs) :
    Calls Try.prog 65 #[.slice none 0 0, .func (.func 64) #[] #[.pointer (some ⟨Bs, 0, none⟩)]] w fun e W' => ∃ v, e = .returned v ∧ Own w W' v xs :=
  callsIn_wide.1 (appendSeq_in Fence.wide 3 trivial trivial rfl (by omega) Bs sv xs (Nat.le_trans hlen (by decide)) (by omega) w hBs hc0 hL)
theorem collect_any (Bs : Nat) (sv : Value) (xs : List Int) (hlen : xs.length ≤ 2) (w : World) (hBs : Bs < w.heap.size) (hc0 : w.cell? ⟨Bs, 0, none⟩ = some sv) (hL : Bytes8 w.heap.size w sv xs) :
    Calls Try.prog 62 #[.func (.func 64) #[] #[.pointer (some ⟨Bs, 0, none⟩)]] w fun e W' => ∃ v, e = .returned v ∧ Own w W' v xs := by
  go_enter Try.func62, Try.ntmps62
  go_wp2_with (first | (go_at_call 65; refine (append_any Bs sv xs hlen _ hBs hc0 hL).mono ?_; rintro e w' ⟨v, rfl, hv⟩))
  go_returns
  exact ⟨_, rfl, hv⟩
section
variable {w w' : World} {v : Value} {x y : Int}
theorem Own.nil (h : Own w w' v []) : v = .slice none 0 0 := h.2.1.2 rfl
theorem Own.one (h : Own w w' v [x]) : ∃ g cap, v = .slice (some ⟨g, 0, none⟩) 1 cap ∧ w.heap.size ≤ g ∧ g < w'.heap.size ∧ 1 ≤ cap ∧ w'.cell? ⟨g, 0, none⟩ = some (.int .u8 x) := by
  obtain ⟨⟨_, h⟩, _, _⟩ := h
  rcases h with ⟨_, h⟩ | ⟨g, cap, cur, hv, hb, hg, hc, _, hs, ht⟩
  · cases h
  · refine ⟨g, cap, hv, hb, ?_, hc, ?_⟩
    · rcases Nat.lt_or_ge g w'.heap.size with h | h
      · exact h
      · rw [Array.getElem?_eq_none h] at hg; cases hg
    · refine cell_of hg ?_
      have := congrArg (fun l => l[0]?) ht
      simpa using this
theorem Own.two (h : Own w w' v [x, y]) : ∃ g cap, v = .slice (some ⟨g, 0, none⟩) 2 cap ∧ w.heap.size ≤ g ∧ g < w'.heap.size ∧ 2 ≤ cap ∧ R2 w' g x y := by
  obtain ⟨⟨_, h⟩, _, _⟩ := h
  rcases h with ⟨_, h⟩ | ⟨g, cap, cur, hv, hb, hg, hc, _, hs, ht⟩
  · cases h
  · refine ⟨g, cap, hv, hb, ?_, hc, cur, hg, ?_, ?_⟩
    · rcases Nat.lt_or_ge g w'.heap.size with h | h
      · exact h
      · rw [Array.getElem?_eq_none h] at hg; cases hg
    · have := congrArg (fun l => l[0]?) ht
      simpa using this
    · have := congrArg (fun l => l[1]?) ht
      simpa using this
end
theorem sorted_nil (Bs : Nat) (sv : Value) (w : World) (hBs : Bs < w.heap.size) (hc0 : w.cell? ⟨Bs, 0, none⟩ = some sv) (hL : Bytes8 w.heap.size w sv []) :
    Calls Try.prog 55 #[.func (.func 64) #[] #[.pointer (some ⟨Bs, 0, none⟩)]] w fun e W' => e = .returned (.slice none 0 0) ∧ Below w.heap.size w W' := by
  go_enter Try.func55, Try.ntmps55
  go_wp2_with (first | (go_at_call 62; refine (collect_any Bs sv [] (by simp) _ hBs hc0 hL).mono ?_; rintro e w' ⟨v, rfl, hv⟩; obtain rfl := hv.nil; have hb := hv.2.2; clear hv) | (go_at_call 63; refine (sort_few _ _ _ (by omega) _).mono ?_; rintro e w' ⟨⟨v, rfl⟩, hw⟩; rw [hw]; clear hw w'))
  go_returns
  exact ⟨rfl, hb⟩
theorem sorted_one (Bs : Nat) (sv : Value) (x : Int) (w : World) (hBs : Bs < w.heap.size) (hc0 : w.cell? ⟨Bs, 0, none⟩ = some sv) (hL : Bytes8 w.heap.size w sv [x]) :
    Calls Try.prog 55 #[.func (.func 64) #[] #[.pointer (some ⟨Bs, 0, none⟩)]] w fun e W' => ∃ g cap, e = .returned (.slice (some ⟨g, 0, none⟩) 1 cap) ∧ w.heap.size ≤ g ∧ g < W'.heap.size ∧ 1 ≤ cap ∧ W'.cell? ⟨g, 0, none⟩ = some (.int .u8 x) ∧ Below w.heap.size w W' := by
  go_enter Try.func55, Try.ntmps55
  go_wp2_with (first | (go_at_call 62; refine (collect_any Bs sv [x] (by simp) _ hBs hc0 hL).mono ?_; rintro e w' ⟨v, rfl, hv⟩; obtain ⟨g, cap, rfl, hg1, hg2, hcap, hc⟩ := hv.one; have hb := hv.2.2; clear hv) | (go_at_call 63; refine (sort_few _ _ _ (by omega) _).mono ?_; rintro e w' ⟨⟨v, rfl⟩, hw⟩; rw [hw]; clear hw))
  go_returns
  exact ⟨g, cap, rfl, hg1, hg2, hcap, hc, hb⟩
theorem sorted_two (Bs : Nat) (sv : Value) (x y : Int) (w : World) (hBs : Bs < w.heap.size) (hc0 : w.cell? ⟨Bs, 0, none⟩ = some sv) (hL : Bytes8 w.heap.size w sv [x, y]) :
    Calls Try.prog 55 #[.func (.func 64) #[] #[.pointer (some ⟨Bs, 0, none⟩)]] w fun e W' => ∃ g cap, e = .returned (.slice (some ⟨g, 0, none⟩) 2 cap) ∧ w.heap.size ≤ g ∧ g < W'.heap.size ∧ 2 ≤ cap ∧ R2 W' g (min x y) (max x y) ∧ Below w.heap.size w W' := by
  by_cases hlt : y < x
  · have hd : decide (y < x) = true := by simp [hlt]
    have e1 : min x y = y := by omega
    have e2 : max x y = x := by omega
    rw [e1, e2]
    clear e1 e2 hlt
    go_enter Try.func55, Try.ntmps55
    go_wp2_with (first | (go_at_call 62; refine (collect_any Bs sv [x, y] (by simp) _ hBs hc0 hL).mono ?_; rintro e w' ⟨v, rfl, hv⟩; obtain ⟨g, cap, rfl, hg1, hg2, hcap, hc⟩ := hv.two; have hb := hv.2.2; clear hv) | (go_at_call 63; refine (sort_swap _ _ _ _ hd _ hc).mono ?_; rintro e w2 ⟨⟨v, rfl⟩, hr2, hx⟩))
    go_returns
    exact ⟨g, cap, rfl, hg1, Nat.lt_of_lt_of_le hg2 hx.size, hcap, hr2, hb.trans (hx.below hg1 hb.size)⟩
  · have hd : decide (y < x) = false := by simp; omega
    have e1 : min x y = x := by omega
    have e2 : max x y = y := by omega
    rw [e1, e2]
    clear e1 e2 hlt
    go_enter Try.func55, Try.ntmps55
    go_wp2_with (first | (go_at_call 62; refine (collect_any Bs sv [x, y] (by simp) _ hBs hc0 hL).mono ?_; rintro e w' ⟨v, rfl, hv⟩; obtain ⟨g, cap, rfl, hg1, hg2, hcap, hc⟩ := hv.two; have hb := hv.2.2; clear hv) | (go_at_call 63; refine (sort_keep _ _ _ _ hd _ hc).mono ?_; rintro e w2 ⟨⟨v, rfl⟩, hr2, hx⟩))
    go_returns
    exact ⟨g, cap, rfl, hg1, Nat.lt_of_lt_of_le hg2 hx.size, hcap, hr2, hb.trans (hx.below hg1 hb.size)⟩

theorem compact_few (a : Option Addr) (n cap : Nat) (hn : n ≤ 1) (w : World) : Calls Try.prog 54 #[.slice a n cap] w fun e w' => e = .returned (.slice a n cap) ∧ w' = w := by
  have hd : decide ((n : Int) < 2) = true := by simp; omega
  go_enter Try.func54, Try.ntmps54
  go_wp2
  go_returns
  exact ⟨rfl, rfl⟩
theorem zero5 (w : World) : (zeroValue 5).run Try.prog w = .ok (.int .u8 0) w := by kernel_rfl
theorem compact_two (g cap : Nat) (x y : Int) (hcap : 2 ≤ cap) (w : World) (hr : R2 w g x y) (hd : (y == x) = false) : Calls Try.prog 54 #[.slice (some ⟨g, 0, none⟩) 2 cap] w fun e w' => e = .returned (.slice (some ⟨g, 0, none⟩) 2 cap) ∧ ∃ n, w' = w.drewN n := by
  have c0 := hr.c0
  have c1 := hr.c1
  go_enter Try.func54, Try.ntmps54
  go_wp2
  refine wp_loop_rounds 2 ?_
  rw [rounds_succ]
  go_upto_region 6 with fail
  go_quiet (fail)
  go_wp2
  rw [rounds_succ]
  go_wp2
  go_returns
  exact ⟨rfl, _, rfl⟩
theorem compact_same (g cap : Nat) (x y : Int) (hcap : 2 ≤ cap) (w : World) (hr : R2 w g x y) (hd : (y == x) = true) : Calls Try.prog 54 #[.slice (some ⟨g, 0, none⟩) 2 cap] w fun e w' => e = .returned (.slice (some ⟨g, 0, none⟩) 1 cap) ∧ R2 w' g x 0 ∧ GX g w w' := by
  have c0 := hr.c0
  have c1 := hr.c1
  go_enter Try.func54, Try.ntmps54
  go_wp2
  refine wp_loop_rounds 2 ?_
  rw [rounds_succ]
  go_upto_region 6 with fail
  go_quiet (fail)
  have hx : GX g w (w.drewN nq) := (GX.refl g w).drewN nq
  replace hr := hr.drewN nq
  clear c0 c1
  generalize w.drewN nq = W at hr hx ⊢
  have c0 := hr.c0
  have c1 := hr.c1
  have hcl : ∀ ty c, (Builtin.clear_ #[39] ty #[.slice (some ⟨g, 1, none⟩) 1 c]).run Try.prog W = .ok (.tuple #[]) (W.setCell ⟨g, 1, none⟩ (.int .u8 0)) := fun ty c => by
    have := Lib.run_clear_slice (P := Try.prog) W 39 5 ty (.int .u8 0) Try.underlying39 zero5 rfl rfl g 1 1 c (by omega) (fun j hj => by cases (show j = 0 by omega); simp [c1]) (fun j hj => hr.f _)
    simpa [World.setCells] using this
  go_wp2
  refine wp_loop_rounds 1 ?_
  rw [rounds_succ]
  go_wp2_with (simp only [hcl])

  go_returns
  exact ⟨rfl, hr.set1, hx.set 1 _⟩
/-- In their order, each once. -/
def riseL : List Int → List Int
  | [x, y] => if x = y then [x] else [min x y, max x y]
  | l => l
theorem bytes_one {n₀ : Nat} {w : World} {g cap : Nat} {x : Int} (hg : g < n₀) (h : w.cell? ⟨g, 0, none⟩ = some (.int .u8 x)) : Bytes8 n₀ w (.slice (some ⟨g, 0, none⟩) 1 cap) [x] :=
  .inr ⟨g, 0, cap, rfl, hg, fun j hj => by cases (show j = 0 from Nat.lt_one_iff.1 hj); simpa using h⟩
theorem bytes_two {n₀ : Nat} {w : World} {g cap : Nat} {x y : Int} (hg : g < n₀) (h : R2 w g x y) : Bytes8 n₀ w (.slice (some ⟨g, 0, none⟩) 2 cap) [x, y] :=
  .inr ⟨g, 0, cap, rfl, hg, fun j hj => by
    have hj : j < 2 := hj
    rcases (show j = 0 ∨ j = 1 by omega) with rfl | rfl
    · simpa using h.c0
    · simpa using h.c1⟩
theorem box_below (w : World) (v : Value) : Below w.heap.size w (w.alloc (.cells #[v] 39)) := (Below.refl _ w).alloc (Nat.le_refl _) _
theorem bytes_slice {n₀ : Nat} {w : World} {v : Value} {xs : List Int} (h : Bytes8 n₀ w v xs) : ∃ a n c, v = .slice a n c := by
  rcases h with ⟨rfl, _⟩ | ⟨b, off, cap, rfl, _⟩
  · exact ⟨_, _, _, rfl⟩
  · exact ⟨_, _, _, rfl⟩
theorem bytes_mono {n₀ n₁ : Nat} {w : World} {v : Value} {xs : List Int} (h : Bytes8 n₀ w v xs) (hn : n₀ ≤ n₁) : Bytes8 n₁ w v xs := by
  rcases h with h | ⟨b, off, cap, e, hb, hc⟩
  · exact .inl h
  · exact .inr ⟨b, off, cap, e, by omega, hc⟩
theorem rising_any (sv : Value) (xs : List Int) (hl : xs.length ≤ 2) (w : World) (hL : Bytes8 w.heap.size w sv xs) :
    Calls Try.prog 40 #[sv] w fun e w' => ∃ v, e = .returned v ∧ Bytes8 w'.heap.size w' v (riseL xs) ∧ Below w.heap.size w w' := by
  obtain ⟨a, n, c, rfl⟩ := bytes_slice hL
  have hB := box_below w (.slice a n c)
  have hL' : Bytes8 (w.alloc (.cells #[.slice a n c] 39)).heap.size (w.alloc (.cells #[.slice a n c] 39)) (.slice a n c) xs := bytes_mono (hL.below hB) (by simp)
  have hc0 : (w.alloc (.cells #[.slice a n c] 39)).cell? ⟨w.heap.size, 0, none⟩ = some (.slice a n c) := by simp
  have hsz : w.heap.size < (w.alloc (.cells #[.slice a n c] 39)).heap.size := by simp
  match xs, hl, hL' with
  | [], _, hL' =>
    go_enter Try.func40, Try.ntmps40
    go_wp2_with (first
      | (go_at_call 56; refine (values_any _ _ _ _).mono ?_; rintro e w' ⟨rfl, rfl⟩)
      | (go_at_call 55; refine (sorted_nil _ _ _ hsz hc0 hL').mono ?_; rintro e w' ⟨rfl, hb⟩)
      | (go_at_call 54; refine (compact_few _ _ _ (by omega) _).mono ?_; rintro e w2 ⟨rfl, hw⟩; rw [hw]; clear hw w2))
    go_returns
    exact ⟨_, rfl, .inl ⟨rfl, rfl⟩, hB.trans (hb.mono (by simp))⟩
  | [x], _, hL' =>
    go_enter Try.func40, Try.ntmps40
    go_wp2_with (first
      | (go_at_call 56; refine (values_any _ _ _ _).mono ?_; rintro e w' ⟨rfl, rfl⟩)
      | (go_at_call 55; refine (sorted_one _ _ _ _ hsz hc0 hL').mono ?_; rintro e w' ⟨g, cap, rfl, hg1, hg2, hcap, hc, hb⟩)
      | (go_at_call 54; refine (compact_few _ _ _ (by omega) _).mono ?_; rintro e w2 ⟨rfl, hw⟩; rw [hw]; clear hw w2))
    go_returns
    exact ⟨_, rfl, bytes_one hg2 hc, hB.trans (hb.mono (by simp))⟩
  | [x, y], _, hL' =>
    by_cases hxy : x = y
    · have hd : (max x y == min x y) = true := by simp; omega
      have e1 : riseL [x, y] = [min x y] := by rw [riseL, if_pos hxy]; simp; omega
      rw [e1]
      clear e1 hxy
      go_enter Try.func40, Try.ntmps40
      go_wp2_with (first
        | (go_at_call 56; refine (values_any _ _ _ _).mono ?_; rintro e w' ⟨rfl, rfl⟩)
        | (go_at_call 55; refine (sorted_two _ _ _ _ _ hsz hc0 hL').mono ?_; rintro e w' ⟨g, cap, rfl, hg1, hg2, hcap, hc, hb⟩)
        | (go_at_call 54; refine (compact_same _ _ _ _ hcap _ hc hd).mono ?_; rintro e w2 ⟨rfl, hr2, hx2⟩))
      go_returns
      exact ⟨_, rfl, bytes_one (Nat.lt_of_lt_of_le hg2 hx2.size) hr2.c0, hB.trans ((hb.trans (hx2.below hg1 hb.size)).mono (by simp))⟩
    · have hd : (max x y == min x y) = false := by simp; omega
      have e1 : riseL [x, y] = [min x y, max x y] := by rw [riseL, if_neg hxy]
      rw [e1]
      clear e1 hxy
      go_enter Try.func40, Try.ntmps40
      go_wp2_with (first
        | (go_at_call 56; refine (values_any _ _ _ _).mono ?_; rintro e w' ⟨rfl, rfl⟩)
        | (go_at_call 55; refine (sorted_two _ _ _ _ _ hsz hc0 hL').mono ?_; rintro e w' ⟨g, cap, rfl, hg1, hg2, hcap, hc, hb⟩)
        | (go_at_call 54; refine (compact_two _ _ _ _ hcap _ hc hd).mono ?_; rintro e w2 ⟨rfl, m, rfl⟩))
      go_returns
      exact ⟨_, rfl, bytes_two hg2 (hc.drewN m), hB.trans ((hb.mono (by simp)).trans ⟨rfl, rfl, rfl, Nat.le_refl _, fun _ _ => rfl⟩)⟩
end Go.Proofs.Ythbmgfnifolcbaa
