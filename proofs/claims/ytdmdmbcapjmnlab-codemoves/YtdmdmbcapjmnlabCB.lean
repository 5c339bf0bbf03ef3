/- Towards the statements of package code (layer 8): behind, target, isFunction, Callee, told: contracts. -/
import Derived.Test.YtdmdmbcapjmnlabCA
import Derived.Deep.DeepCutAuto
namespace Go.Proofs.Ytdmdmbcapjmnlab
open Go.ChangeShapes Go.WideShapes Go.ChangeAt Go.RowKit
set_option linter.unusedVariables false
set_option linter.unusedSimpArgs false
set_option maxRecDepth 20000

def behindM (L : List Sl) (at_ : Int) : Int := if kindM L at_ = 9 then at_ + 2 else at_ + 1
theorem behind_any (n₀ : Nat → Prop) (sv : Value) (L : List Sl) (at_ : Int) (h0 : 0 ≤ at_) (h1 : at_ ≤ 8192) (w : World) (hL : Slots n₀ w sv L) : Calls Try.prog 15 #[sv, .int .i64 at_] w fun e w' => e = .returned (.int .i64 (behindM L at_)) ∧ Gr w w' := by
  have k1 := kindAt_any n₀ sv L at_ w hL
  have e1 : IntKind.i64.wrap (at_ + 2) = at_ + 2 := IntWalk.i64_in _ (by omega)
  have e2 : IntKind.i64.wrap (at_ + 1) = at_ + 1 := IntWalk.i64_in _ (by omega)
  unfold behindM
  generalize kindM L at_ = k at k1 ⊢
  cases hk : (k == 9) with
  | true =>
    rw [if_pos (show k = 9 by simpa using hk)]
    go_enter Try.func15, Try.ntmps15
    go_wp2_with first | (go_at_call 13; refine k1.mono ?_; rintro e w' ⟨rfl, hg⟩)
    go_ret
    exact ⟨rfl, hg⟩
  | false =>
    rw [if_neg (show ¬ k = 9 by simpa using hk)]
    go_enter Try.func15, Try.ntmps15
    go_wp2_with first | (go_at_call 13; refine k1.mono ?_; rintro e w' ⟨rfl, hg⟩)
    go_ret
    exact ⟨rfl, hg⟩
theorem target_any (n₀ : Nat → Prop) (sv : Value) (L : List Sl) (at_ : Int) (x : Sl) (hx : slotAt L at_ = some x) (w : World) (hL : Slots n₀ w sv L) : Calls Try.prog 44 #[sv, .int .i64 at_] w fun e w' => e = .returned (.int .i64 (at_ + 1 + x.f)) ∧ w' = w := by
  obtain ⟨h0, h1⟩ := slotAt_some hx
  obtain ⟨b, off, cap, rfl, hb, ⟨c0, c1, c2, c3, c4⟩, ⟨_, _, _, ⟨f0, f1⟩, _⟩, hlt⟩ := hL.get h0 h1
  have hlen := hL.len
  have e2 : IntKind.i64.wrap (at_ + 1) = at_ + 1 := IntWalk.i64_in _ (by omega)
  have e3 : IntKind.i64.wrap (at_ + 1 + x.f) = at_ + 1 + x.f := IntWalk.i64_in _ (by omega)
  have e4 : IntKind.i64.wrap x.f = x.f := IntWalk.i64_in _ (by omega)
  go_enter Try.func44, Try.ntmps44
  go_wp2
  go_ret
  exact ⟨rfl, rfl⟩
def funB (L : List Sl) (at_ : Int) : Bool := match slotAt L at_ with
  | some x => decide (x.k = 9) && decide (x.s = 2)
  | none => false
theorem isFunction_any (n₀ : Nat → Prop) (sv : Value) (L : List Sl) (at_ : Int) (w : World) (hL : Slots n₀ w sv L) : Calls Try.prog 14 #[sv, .int .i64 at_] w fun e w' => e = .returned (.bool (funB L at_)) ∧ Gr w w' := by
  have k1 := kindAt_any n₀ sv L at_ w hL
  cases e : slotAt L at_ with
  | none =>
    rw [funB, e]; rw [kindM, e] at k1; dsimp only at k1 ⊢
    go_enter Try.func14, Try.ntmps14
    go_wp2_with first | (go_at_call 13; refine k1.mono ?_; rintro e w' ⟨rfl, hg⟩)
    all_goals go_ret
    exact ⟨rfl, hg⟩
  | some x =>
    obtain ⟨h0, h1⟩ := slotAt_some e
    obtain ⟨b, off, cap, rfl, hb, hC, _, hlt⟩ := hL.here.get h0 h1
    have hlen := hL.len
    rw [funB, e]; rw [kindM, e] at k1; dsimp only at k1 ⊢
    generalize x.k = k at k1 ⊢
    cases hk : decide (k = 9) with
    | false =>
      have hk' : (k == 9) = false := by simpa using hk
      go_enter Try.func14, Try.ntmps14
      go_wp2_with first | (go_at_call 13; refine k1.mono ?_; rintro e w' ⟨rfl, hg⟩)
      all_goals go_ret
      exact ⟨by simp, hg⟩
    | true =>
      obtain rfl : k = 9 := by simpa using hk
      go_enter Try.func14, Try.ntmps14
      go_wp2_with first | (go_at_call 13; refine k1.mono ?_; rintro e w' ⟨rfl, hg⟩; obtain ⟨_, _, c2, _⟩ := hC.below hb hg.below)
      all_goals go_ret
      exact ⟨ret_bool (by simp; rfl), hg⟩
/-- Whom an instruction names. -/
def calleeM (L : List Sl) (at_ : Int) : Option Int := match slotAt L at_ with
  | some x => if x.k = 7 then some (at_ + 1 + x.i) else if x.k = 9 ∧ x.s = 2 then some (at_ + 2 + x.i) else none
  | none => none
def calleeV (L : List Sl) (at_ : Int) : Value := match calleeM L at_ with
  | some t => .tuple #[.int .i64 t, .bool true]
  | none => .tuple #[.int .i64 0, .bool false]
theorem GrBy.cell5 {w : World} {b k : Nat} {x : Sl} (h : Cell5 w b k x) (hb : b < w.heap.size) (p : GrBy w) : Cell5 p.to b k x := h.below hb p.gr.below
theorem callee_yes (n₀ : Nat → Prop) (sv : Value) (L : List Sl) (at_ : Int) (x : Sl) (hx : slotAt L at_ = some x) (w : World) (hL : Slots n₀ w sv L) (hc : x.k = 7 ∨ (x.k = 9 ∧ x.s = 2)) : Calls Try.prog 7 #[sv, .int .i64 at_] w fun e w' => e = .returned (.tuple #[.int .i64 (behindM L at_ + x.i), .bool true]) ∧ Gr w w' := by
  obtain ⟨h0, h1⟩ := slotAt_some hx
  have hL0 := hL
  obtain ⟨b, off, cap, rfl, hb, hC, ⟨_, _, _, _, ⟨i0, i1⟩⟩, hlt⟩ := hL.here.get h0 h1
  have hlen := hL.len
  have k1 := fun W (hW : Slots n₀ W (.slice (some ⟨b, off, none⟩) L.length cap) L) => kindAt_any n₀ _ L at_ W hW
  have k2 := fun W (hW : Slots n₀ W (.slice (some ⟨b, off, none⟩) L.length cap) L) => isFunction_any n₀ _ L at_ W hW
  have k3 := fun W (hW : Slots n₀ W (.slice (some ⟨b, off, none⟩) L.length cap) L) => behind_any n₀ _ L at_ h0 (by omega) W hW
  have hbe : at_ + 1 ≤ behindM L at_ ∧ behindM L at_ ≤ at_ + 2 := by unfold behindM; split <;> omega
  generalize behindM L at_ = bh at k3 hbe ⊢
  have e3 : IntKind.i64.wrap (bh + x.i) = bh + x.i := IntWalk.i64_in _ (by omega)
  have e4 : IntKind.i64.wrap x.i = x.i := IntWalk.i64_in _ (by omega)
  have hf : x.k = 7 → kindM L at_ = 7 := fun h => by rw [kindM, hx]; exact h
  have hg9 : x.k = 9 → kindM L at_ = 9 := fun h => by rw [kindM, hx]; exact h
  have hff : x.k = 9 ∧ x.s = 2 → funB L at_ = true := fun h => by rw [funB, hx]; simp [h.1, h.2]
  rcases hc with h7 | h9
  · rw [hf h7] at k1
    go_enter Try.func7, Try.ntmps7
    have HG := Gr.refl w
    go_upto_region 2 with first | (go_at_call 13; refine (k1 _ hL0).mono ?_; rintro e w' ⟨rfl, hg⟩; replace HG := HG.trans hg; replace hL0 := hL0.gr hg.below; replace hC := hC.below hb hg.below; replace hb := Nat.lt_of_lt_of_le hb hg.below.size; clear hg)
    generalize w' = W at HG hL0 hC hb ⊢
    have c4 := fun p : GrBy W => (GrBy.cell5 hC hb p).2.2.2.2
    have hne : Nonempty (GrBy W) := ⟨⟨W, Gr.refl W⟩⟩
    refine wp_region_gr (by kernel_rfl) (by kernel_rfl) ?_
    repeat (first
      | go_big_quiet_skip
      | (go_big_quiet_want; go_big_quiet_op; first
        | go_big_quiet_on
        | (apply Exists.intro
           refine ⟨fun p => ?_, ?_⟩
           · first
               | (go_at_call 15; exact calls_gr (k3 _ (hL0.gr p.gr.below)))
           go_big_quiet_on)))
    refine wpQuiet_nil ?_
    intro _ hw'
    obtain ⟨⟨wq, hq⟩, rfl⟩ := hw'
    replace HG := HG.trans hq
    go_wp2
    go_returns
    exact ⟨rfl, HG⟩
  · rw [hg9 h9.1] at k1
    rw [hff h9] at k2
    go_enter Try.func7, Try.ntmps7
    have HG := Gr.refl w
    go_upto_region 2 with first | (go_at_call 13; refine (k1 _ hL0).mono ?_; rintro e w' ⟨rfl, hg⟩; replace HG := HG.trans hg; replace hL0 := hL0.gr hg.below; replace hC := hC.below hb hg.below; replace hb := Nat.lt_of_lt_of_le hb hg.below.size; clear hg) | (go_at_call 14; refine (k2 _ hL0).mono ?_; rintro e w' ⟨rfl, hg⟩; replace HG := HG.trans hg; replace hL0 := hL0.gr hg.below; replace hC := hC.below hb hg.below; replace hb := Nat.lt_of_lt_of_le hb hg.below.size; clear hg)
    generalize w' = W at HG hL0 hC hb ⊢
    have c4 := fun p : GrBy W => (GrBy.cell5 hC hb p).2.2.2.2
    have hne : Nonempty (GrBy W) := ⟨⟨W, Gr.refl W⟩⟩
    refine wp_region_gr (by kernel_rfl) (by kernel_rfl) ?_
    repeat (first
      | go_big_quiet_skip
      | (go_big_quiet_want; go_big_quiet_op; first
        | go_big_quiet_on
        | (apply Exists.intro
           refine ⟨fun p => ?_, ?_⟩
           · first
               | (go_at_call 15; exact calls_gr (k3 _ (hL0.gr p.gr.below)))
           go_big_quiet_on)))
    refine wpQuiet_nil ?_
    intro _ hw'
    obtain ⟨⟨wq, hq⟩, rfl⟩ := hw'
    replace HG := HG.trans hq
    go_wp2
    go_returns
    exact ⟨rfl, HG⟩
theorem callee_no (n₀ : Nat → Prop) (sv : Value) (L : List Sl) (at_ : Int) (w : World) (hL : Slots n₀ w sv L) (h7 : (kindM L at_ == 7) = false) (hf : funB L at_ = false) : Calls Try.prog 7 #[sv, .int .i64 at_] w fun e w' => e = .returned (.tuple #[.int .i64 0, .bool false]) ∧ Gr w w' := by
  have hL0 := hL
  have k1 := fun W (hW : Slots n₀ W sv L) => kindAt_any n₀ _ L at_ W hW
  have k2 := fun W (hW : Slots n₀ W sv L) => isFunction_any n₀ _ L at_ W hW
  rw [hf] at k2
  generalize kindM L at_ = k at k1 h7
  have HG := Gr.refl w
  go_enter Try.func7, Try.ntmps7
  go_wp2_with first | (go_at_call 13; refine (k1 _ hL0).mono ?_; rintro e w' ⟨rfl, hg⟩; replace HG := HG.trans hg; replace hL0 := hL0.gr hg.below; clear hg) | (go_at_call 14; refine (k2 _ hL0).mono ?_; rintro e w' ⟨rfl, hg⟩; replace HG := HG.trans hg; clear hg)
  go_returns
  exact ⟨rfl, HG⟩
theorem callee_any (n₀ : Nat → Prop) (sv : Value) (L : List Sl) (at_ : Int) (w : World) (hL : Slots n₀ w sv L) : Calls Try.prog 7 #[sv, .int .i64 at_] w fun e w' => e = .returned (calleeV L at_) ∧ Gr w w' := by
  unfold calleeV calleeM
  cases hx : slotAt L at_ with
  | none =>
    dsimp only
    exact callee_no n₀ sv L at_ w hL (by rw [kindM, hx]; rfl) (by rw [funB, hx])
  | some x =>
    dsimp only
    have hk : kindM L at_ = x.k := by rw [kindM, hx]
    by_cases h7 : x.k = 7
    · rw [if_pos h7]
      have hb : behindM L at_ = at_ + 1 := by rw [behindM, hk, h7]; rfl
      have := callee_yes n₀ sv L at_ x hx w hL (.inl h7)
      rwa [hb] at this
    · rw [if_neg h7]
      by_cases h9 : x.k = 9 ∧ x.s = 2
      · rw [if_pos h9]
        have hb : behindM L at_ = at_ + 2 := by rw [behindM, hk, h9.1]; rfl
        have := callee_yes n₀ sv L at_ x hx w hL (.inr h9)
        rwa [hb] at this
      · rw [if_neg h9]
        exact callee_no n₀ sv L at_ w hL (by rw [hk]; simpa using h7) (by rw [funB, hx]; simp only [Bool.and_eq_false_iff, decide_eq_false_iff_not]; by_cases h : x.k = 9; exact .inr fun h2 => h9 ⟨h, h2⟩; exact .inl h)
theorem told_any (at_ : Int) (b : Bool) (e_ : Int) (w : World) : Calls Try.prog 24 #[.int .i64 at_, .bool b, .int .i64 e_] w fun e w' => e = .returned (.tuple #[.int .i64 (if b then at_ else 0), .int .i64 (if b then e_ else 0)]) ∧ w' = w := by
  cases b
  · go_enter Try.func24, Try.ntmps24
    go_wp2
    go_returns
    exact ⟨rfl, rfl⟩
  · go_enter Try.func24, Try.ntmps24
    go_wp2
    go_returns
    exact ⟨rfl, rfl⟩
end Go.Proofs.Ytdmdmbcapjmnlab
