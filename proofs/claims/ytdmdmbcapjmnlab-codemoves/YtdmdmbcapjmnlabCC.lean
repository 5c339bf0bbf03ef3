/- Towards the statements of package code (layer 8): leads, an iterator: where an instruction leads. -/
import Derived.RangeFuncNested
import Derived.RangeFuncBound
import Derived.RangeFuncCalls
import Derived.RangeFuncLeaves
import Derived.RangeFuncBox
import Derived.Shelf.Abstract
import Derived.Shelf.RegionOpen
import Derived.WalkKit
import Derived.OwnWalkIn
import Derived.TacticsInMore
import Derived.LoopNIn
import Derived.LoopIn
import Derived.Maps.AppendAt
import Derived.Test.YtdmdmbcapjmnlabCB
namespace Go.Proofs.Ytdmdmbcapjmnlab
open Go.ChangeShapes Go.WideShapes Go.ChangeAt
open Go.RowKit Go.Shelf
set_option linter.unusedVariables false
set_option linter.unusedSimpArgs false
attribute [local go_sem] Oper.semAt_some

theorem grows {w w' : World} (h : Below w.heap.size w w') : w.grownBy w' none := ⟨h.os, h.tape, h.output, h.size, fun k hk _ => h.block k hk⟩
theorem abides_on {β : Type} {B : Nat} {J : β → World → Prop} (h : AbidesFrom B J) {s : β} {w w' : World} (hs : J s w) (hb : Below w.heap.size w w') : J s w' := h s w w' none hs (grows hb) (fun r e => by cases e)

theorem map_one {α : Type} {enc : α → Int} {xs : List α} {v : Int} (h : xs.map enc = [v]) : ∃ x, xs = [x] ∧ enc x = v := by
  match xs, h with
  | [x], h => exact ⟨x, rfl, by simpa using h⟩
theorem map_two {α : Type} {enc : α → Int} {xs : List α} {u v : Int} (h : xs.map enc = [u, v]) : ∃ x y, xs = [x, y] ∧ enc x = u ∧ enc y = v := by
  match xs, h with
  | [x, y], h => exact ⟨x, y, rfl, by simpa using h⟩
/-- Where an instruction leads. -/
def leadsM (L : List Sl) (at_ : Int) : List Int := match slotAt L at_ with
  | none => []
  | some x => if x.k = 0 ∨ x.k = 8 then [] else if x.k = 10 then [at_ + 1 + x.f] else if x.k = 5 then [at_ + 1, at_ + 1 + x.f] else if x.k = 9 then [at_ + 2] else [at_ + 1]

/-- Lists that come in order. -/
def Came {α : Type} (xs : List α) (J Jx : List α → World → Prop) (e : Ending) (W' : World) : Prop := (∃ v, e = .returned v) ∧ ((∃ ys, ys = xs ∧ J ys W') ∨ (∃ pre, pre <+: xs ∧ Jx pre W'))

section
variable {α : Type} (enc : α → Int) (n : Nat) (hn : 1 ≤ n) (Bl Ba : Nat) (n₀ : Nat → Prop) (sv : Value) (L : List Sl) (at_ : Int)
include hn
set_option maxRecDepth 100000 in
set_option maxHeartbeats 2000000 in
/-- Nowhere. -/
theorem leads_none (l : Nat) (J Jx : List α → World → Prop) (W : World) (hJ : AbidesFrom W.heap.size J) (h0 : J [] W)
    (hl : W.cell? ⟨Bl, 0, none⟩ = some sv) (ha : W.cell? ⟨Ba, 0, none⟩ = some (.int .i64 at_)) (hL : Slots n₀ W sv L) (hk : kindM L at_ = 0 ∨ kindM L at_ = 8) :
    CallsIn Fence.wide n Try.prog 43 #[.func (.yield l) #[] #[], .pointer (some ⟨Bl, 0, none⟩), .pointer (some ⟨Ba, 0, none⟩)] W (Came [] J Jx) := by
  have k1 := kindAt_any n₀ sv L at_ W hL
  refine callsIn_of_wp Try.func43 rfl trivial ?_ rfl
  simp only [Try.ntmps43, List.size_toArray, List.length_cons, List.length_nil, Nat.reduceAdd, Nat.reduceSub, Array.replicate_succ, Array.replicate_zero, List.push_toArray, List.append_toArray, List.nil_append, List.cons_append]
  rcases hk with hk | hk
  all_goals
    rw [hk] at k1
    gi_wp2_with (refine ⟨trivial, ?_⟩; gi_at_call 13; refine (callsIn_wide.2 k1).mono ?_; rintro e w' ⟨rfl, hg⟩)
    go_end0
    exact ⟨⟨_, rfl⟩, .inl ⟨_, rfl, abides_on hJ h0 hg.below⟩⟩
set_option maxRecDepth 100000 in
set_option maxHeartbeats 2000000 in
/-- A go. -/
theorem leads_go (x1 : α) (x : Sl) (hx1 : enc x1 = at_ + 1 + x.f) (hx : slotAt L at_ = some x) (hk : x.k = 10) (l : Nat) (J Jx : List α → World → Prop) (W : World) (hJ : AbidesFrom W.heap.size J) (hY : ∀ pre x W1, J pre W1 → pre.length < 2 → YieldAt Fence.wide (n - 1) Try.prog l #[.int .i64 (enc x)] W1 fun e W' => (e = .returned (.bool true) ∧ J (pre ++ [x]) W' ∧ Keep n₀ W1 W' ∧ W1.heap.size ≤ W'.heap.size) ∨ (e = .returned (.bool false) ∧ Jx (pre ++ [x]) W')) (h0 : J [] W) (hBl : n₀ Bl) (hBa : n₀ Ba) (hn₀ : ∀ b, n₀ b → b < W.heap.size) (hl : W.cell? ⟨Bl, 0, none⟩ = some sv) (ha : W.cell? ⟨Ba, 0, none⟩ = some (.int .i64 at_)) (hL : Slots n₀ W sv L) :
    CallsIn Fence.wide n Try.prog 43 #[.func (.yield l) #[] #[], .pointer (some ⟨Bl, 0, none⟩), .pointer (some ⟨Ba, 0, none⟩)] W (Came [x1] J Jx) := by
  have k1 := kindAt_any n₀ sv L at_ W hL
  rw [show kindM L at_ = 10 by rw [kindM, hx]; exact hk] at k1
  refine callsIn_of_wp Try.func43 rfl trivial ?_ rfl
  simp only [Try.ntmps43, List.size_toArray, List.length_cons, List.length_nil, Nat.reduceAdd, Nat.reduceSub, Array.replicate_succ, Array.replicate_zero, List.push_toArray, List.append_toArray, List.nil_append, List.cons_append]
  gi_wp2_with first | (refine ⟨trivial, ?_⟩; gi_at_call 13; refine (callsIn_wide.2 k1).mono ?_; rintro e w' ⟨rfl, hg⟩; replace h0 := abides_on hJ h0 hg.below; have hb := Keep.of hg.below hn₀; replace hl := (hb.cell (p := ⟨Bl, 0, none⟩) hBl).trans hl; replace ha := (hb.cell (p := ⟨Ba, 0, none⟩) hBa).trans ha; replace hL := hL.keep hb hg.below.size; replace hn₀ := fun b h => Nat.lt_of_lt_of_le (hn₀ b h) hg.below.size; clear hb hg k1) | (refine ⟨trivial, ?_⟩; gi_at_call 44; refine (callsIn_wide.2 (target_any n₀ sv L at_ x hx _ hL)).mono ?_; rintro e w' ⟨rfl, hw⟩; rw [hw]; clear hw; obtain ⟨fn, tmps, assign, body, hy, hR⟩ := hY [] x1 _ h0 (by simp); rw [hx1] at hy)
  refine hR.mono ?_
  rintro e W1 (⟨rfl, hJ1, _⟩ | ⟨rfl, hJx1⟩)
  · gi_wp2
    go_end0
    exact ⟨⟨_, rfl⟩, .inl ⟨_, rfl, hJ1⟩⟩
  · gi_wp2
    go_end0
    exact ⟨⟨_, rfl⟩, .inr ⟨_, List.prefix_refl _, hJx1⟩⟩
set_option maxRecDepth 100000 in
set_option maxHeartbeats 2000000 in
/-- To the next one. -/
theorem leads_next (x1 : α) (x : Int) (hx1 : enc x1 = x) (k : Int) (hk : kindM L at_ = k) (hk0 : (k == 0) = false) (hk8 : (k == 8) = false) (hk10 : (k == 10) = false) (hk5 : (k == 5) = false) (hat : 0 ≤ at_ ∧ at_ ≤ 8192) (hbe : behindM L at_ = x) (l : Nat) (J Jx : List α → World → Prop) (W : World) (hJ : AbidesFrom W.heap.size J) (hY : ∀ pre x W1, J pre W1 → pre.length < 2 → YieldAt Fence.wide (n - 1) Try.prog l #[.int .i64 (enc x)] W1 fun e W' => (e = .returned (.bool true) ∧ J (pre ++ [x]) W' ∧ Keep n₀ W1 W' ∧ W1.heap.size ≤ W'.heap.size) ∨ (e = .returned (.bool false) ∧ Jx (pre ++ [x]) W')) (h0 : J [] W) (hBl : n₀ Bl) (hBa : n₀ Ba) (hn₀ : ∀ b, n₀ b → b < W.heap.size) (hl : W.cell? ⟨Bl, 0, none⟩ = some sv) (ha : W.cell? ⟨Ba, 0, none⟩ = some (.int .i64 at_)) (hL : Slots n₀ W sv L) :
    CallsIn Fence.wide n Try.prog 43 #[.func (.yield l) #[] #[], .pointer (some ⟨Bl, 0, none⟩), .pointer (some ⟨Ba, 0, none⟩)] W (Came [x1] J Jx) := by
  have k1 := kindAt_any n₀ sv L at_ W hL
  rw [hk] at k1
  refine callsIn_of_wp Try.func43 rfl trivial ?_ rfl
  simp only [Try.ntmps43, List.size_toArray, List.length_cons, List.length_nil, Nat.reduceAdd, Nat.reduceSub, Array.replicate_succ, Array.replicate_zero, List.push_toArray, List.append_toArray, List.nil_append, List.cons_append]
  gi_wp2_with first | (refine ⟨trivial, ?_⟩; gi_at_call 13; refine (callsIn_wide.2 k1).mono ?_; rintro e w' ⟨rfl, hg⟩; replace h0 := abides_on hJ h0 hg.below; have hb := Keep.of hg.below hn₀; replace hl := (hb.cell (p := ⟨Bl, 0, none⟩) hBl).trans hl; replace ha := (hb.cell (p := ⟨Ba, 0, none⟩) hBa).trans ha; replace hL := hL.keep hb hg.below.size; replace hn₀ := fun b h => Nat.lt_of_lt_of_le (hn₀ b h) hg.below.size; clear hb hg k1) | (refine ⟨trivial, ?_⟩; gi_at_call 15; refine (callsIn_wide.2 (behind_any n₀ sv L at_ hat.1 hat.2 _ hL)).mono ?_; rw [hbe]; rintro e w' ⟨rfl, hg⟩; replace h0 := abides_on hJ h0 hg.below; have hb := Keep.of hg.below hn₀; replace hl := (hb.cell (p := ⟨Bl, 0, none⟩) hBl).trans hl; replace ha := (hb.cell (p := ⟨Ba, 0, none⟩) hBa).trans ha; replace hL := hL.keep hb hg.below.size; replace hn₀ := fun b h => Nat.lt_of_lt_of_le (hn₀ b h) hg.below.size; clear hb hg; obtain ⟨fn, tmps, assign, body, hy, hR⟩ := hY [] x1 _ h0 (by simp); rw [hx1] at hy)
  refine hR.mono ?_
  rintro e W1 (⟨rfl, hJ1, _⟩ | ⟨rfl, hJx1⟩)
  · gi_wp2
    go_end0
    exact ⟨⟨_, rfl⟩, .inl ⟨_, rfl, hJ1⟩⟩
  · gi_wp2
    go_end0
    exact ⟨⟨_, rfl⟩, .inr ⟨_, List.prefix_refl _, hJx1⟩⟩
set_option maxRecDepth 100000 in
set_option maxHeartbeats 2000000 in
/-- A jump. -/
theorem leads_jump (x1 x2 : α) (x : Sl) (hx1 : enc x1 = at_ + 1) (hx2 : enc x2 = at_ + 1 + x.f) (hx : slotAt L at_ = some x) (hk : x.k = 5) (l : Nat) (J Jx : List α → World → Prop) (W : World) (hJ : AbidesFrom W.heap.size J) (hY : ∀ pre x W1, J pre W1 → pre.length < 2 → YieldAt Fence.wide (n - 1) Try.prog l #[.int .i64 (enc x)] W1 fun e W' => (e = .returned (.bool true) ∧ J (pre ++ [x]) W' ∧ Keep n₀ W1 W' ∧ W1.heap.size ≤ W'.heap.size) ∨ (e = .returned (.bool false) ∧ Jx (pre ++ [x]) W')) (h0 : J [] W) (hBl : n₀ Bl) (hBa : n₀ Ba) (hn₀ : ∀ b, n₀ b → b < W.heap.size) (hl : W.cell? ⟨Bl, 0, none⟩ = some sv) (ha : W.cell? ⟨Ba, 0, none⟩ = some (.int .i64 at_)) (hL : Slots n₀ W sv L) :
    CallsIn Fence.wide n Try.prog 43 #[.func (.yield l) #[] #[], .pointer (some ⟨Bl, 0, none⟩), .pointer (some ⟨Ba, 0, none⟩)] W (Came [x1, x2] J Jx) := by
  have k1 := kindAt_any n₀ sv L at_ W hL
  have hk5 : kindM L at_ = 5 := by rw [kindM, hx]; exact hk
  have hbe : behindM L at_ = at_ + 1 := by rw [behindM, hk5]; rfl
  have hat : 0 ≤ at_ ∧ at_ ≤ 8192 := by
    obtain ⟨h0, h1⟩ := slotAt_some hx
    have := (List.getElem?_eq_some_iff.1 h1).1; have := hL.len; omega
  rw [hk5] at k1
  refine callsIn_of_wp Try.func43 rfl trivial ?_ rfl
  simp only [Try.ntmps43, List.size_toArray, List.length_cons, List.length_nil, Nat.reduceAdd, Nat.reduceSub, Array.replicate_succ, Array.replicate_zero, List.push_toArray, List.append_toArray, List.nil_append, List.cons_append]
  gi_wp2_with first | (refine ⟨trivial, ?_⟩; gi_at_call 13; refine (callsIn_wide.2 k1).mono ?_; rintro e w' ⟨rfl, hg⟩; replace h0 := abides_on hJ h0 hg.below; have hb := Keep.of hg.below hn₀; replace hl := (hb.cell (p := ⟨Bl, 0, none⟩) hBl).trans hl; replace ha := (hb.cell (p := ⟨Ba, 0, none⟩) hBa).trans ha; replace hL := hL.keep hb hg.below.size; replace hn₀ := fun b h => Nat.lt_of_lt_of_le (hn₀ b h) hg.below.size; clear hb hg k1) | (refine ⟨trivial, ?_⟩; gi_at_call 15; refine (callsIn_wide.2 (behind_any n₀ sv L at_ hat.1 hat.2 _ hL)).mono ?_; rw [hbe]; rintro e w' ⟨rfl, hg⟩; replace h0 := abides_on hJ h0 hg.below; have hb := Keep.of hg.below hn₀; replace hl := (hb.cell (p := ⟨Bl, 0, none⟩) hBl).trans hl; replace ha := (hb.cell (p := ⟨Ba, 0, none⟩) hBa).trans ha; replace hL := hL.keep hb hg.below.size; replace hn₀ := fun b h => Nat.lt_of_lt_of_le (hn₀ b h) hg.below.size; clear hb hg; obtain ⟨fn, tmps, assign, body, hy, hR⟩ := hY [] x1 _ h0 (by simp); rw [hx1] at hy)
  refine hR.mono ?_
  rintro e W1 (⟨rfl, hJ1, hb, hs⟩ | ⟨rfl, hJx1⟩)
  · replace hl := (hb.cell (p := ⟨Bl, 0, none⟩) hBl).trans hl; replace ha := (hb.cell (p := ⟨Ba, 0, none⟩) hBa).trans ha; replace hL := hL.keep hb hs
    clear hy hR
    gi_wp2_with first | (refine ⟨trivial, ?_⟩; gi_at_call 44; refine (callsIn_wide.2 (target_any n₀ sv L at_ x hx _ hL)).mono ?_; rintro e w' ⟨rfl, hw⟩; rw [hw]; clear hw; obtain ⟨fn, tmps, assign, body, hy, hR⟩ := hY ([] ++ [x1]) x2 _ hJ1 (by simp); rw [hx2] at hy)
    refine hR.mono ?_
    rintro e W2 (⟨rfl, hJ2, _⟩ | ⟨rfl, hJx2⟩)
    · gi_wp2
      go_end0
      exact ⟨⟨_, rfl⟩, .inl ⟨_, rfl, hJ2⟩⟩
    · gi_wp2
      go_end0
      exact ⟨⟨_, rfl⟩, .inr ⟨_, List.prefix_refl _, hJx2⟩⟩
  · gi_wp2
    go_end0
    exact ⟨⟨_, rfl⟩, .inr ⟨_, ⟨[x2], rfl⟩, hJx1⟩⟩
/-- leads' closure: it gives where the instruction leads, to every loop that keeps its memory. -/
theorem leads1_stops (xs : List α) (hxs : xs.map enc = leadsM L at_) (w : World) (hBl : n₀ Bl) (hBa : n₀ Ba) (hn₀ : ∀ b, n₀ b → b < w.heap.size) (hl : w.cell? ⟨Bl, 0, none⟩ = some sv) (ha : w.cell? ⟨Ba, 0, none⟩ = some (.int .i64 at_)) (hL : Slots n₀ w sv L) :
    SeqStopsK Fence.wide n Try.prog 43 #[.pointer (some ⟨Bl, 0, none⟩), .pointer (some ⟨Ba, 0, none⟩)] (fun x : α => #[Value.int .i64 (enc x)]) (fun W W' => Keep n₀ W W' ∧ W.heap.size ≤ W'.heap.size) (fun ys => ys = xs) (fun pre => pre <+: xs) 2 w := fun l J Jx W hW hJ _ hY h0 => by
  have hb := Keep.of hW hn₀
  replace hl := (hb.cell (p := ⟨Bl, 0, none⟩) hBl).trans hl
  replace ha := (hb.cell (p := ⟨Ba, 0, none⟩) hBa).trans ha
  replace hL := hL.keep hb hW.size
  replace hn₀ := fun b h => Nat.lt_of_lt_of_le (hn₀ b h) hW.size
  show CallsIn Fence.wide n Try.prog 43 #[.func (.yield l) #[] #[], .pointer (some ⟨Bl, 0, none⟩), .pointer (some ⟨Ba, 0, none⟩)] W (Came xs J Jx)
  unfold leadsM at hxs
  cases hx : slotAt L at_ with
  | none =>
    rw [hx] at hxs
    obtain rfl : xs = [] := by simpa using hxs
    exact leads_none n hn Bl Ba n₀ sv L at_ l J Jx W hJ h0 hl ha hL (.inl (by rw [kindM, hx]))
  | some x =>
    have hkx : kindM L at_ = x.k := by rw [kindM, hx]
    have hat : 0 ≤ at_ ∧ at_ ≤ 8192 := by
      obtain ⟨h0, h1⟩ := slotAt_some hx
      have := (List.getElem?_eq_some_iff.1 h1).1; have := hL.len; omega
    rw [hx] at hxs
    dsimp only at hxs
    split at hxs
    · rename_i h
      obtain rfl : xs = [] := by simpa using hxs
      exact leads_none n hn Bl Ba n₀ sv L at_ l J Jx W hJ h0 hl ha hL (by rw [hkx]; exact h)
    · rename_i h08
      split at hxs
      · rename_i h
        obtain ⟨x1, rfl, hx1⟩ := map_one hxs
        exact leads_go enc n hn Bl Ba n₀ sv L at_ x1 x hx1 hx h l J Jx W hJ hY h0 hBl hBa hn₀ hl ha hL
      · rename_i h10
        split at hxs
        · rename_i h
          obtain ⟨x1, x2, rfl, hx1, hx2⟩ := map_two hxs
          exact leads_jump enc n hn Bl Ba n₀ sv L at_ x1 x2 x hx1 hx2 hx h l J Jx W hJ hY h0 hBl hBa hn₀ hl ha hL
        · rename_i h5
          have q0 : (x.k == 0) = false := by simp; intro h; exact h08 (.inl h)
          have q8 : (x.k == 8) = false := by simp; intro h; exact h08 (.inr h)
          split at hxs
          · rename_i h9
            obtain ⟨x1, rfl, hx1⟩ := map_one hxs
            exact leads_next enc n hn Bl Ba n₀ sv L at_ x1 (at_ + 2) hx1 x.k hkx q0 q8 (by simpa using h10) (by simpa using h5) hat (by rw [behindM, hkx, h9]; rfl) l J Jx W hJ hY h0 hBl hBa hn₀ hl ha hL
          · rename_i h9
            obtain ⟨x1, rfl, hx1⟩ := map_one hxs
            exact leads_next enc n hn Bl Ba n₀ sv L at_ x1 (at_ + 1) hx1 x.k hkx q0 q8 (by simpa using h10) (by simpa using h5) hat (by rw [behindM, hkx, if_neg h9]) l J Jx W hJ hY h0 hBl hBa hn₀ hl ha hL
end
theorem leads_any (p : Option Addr) (n c : Nat) (at_ : Int) (w : World) : Calls Try.prog 18 #[.slice p n c, .int .i64 at_] w fun e w' => e = .returned (.func (.func 43) #[] #[.pointer (some ⟨w.heap.size, 0, none⟩), .pointer (some ⟨w.heap.size + 1, 0, none⟩)]) ∧ w' = (w.alloc (.cells #[.slice p n c] 22)).alloc (.cells #[.int .i64 at_] 3) := by
  go_enter Try.func18, Try.ntmps18
  go_wp2
  go_returns
  exact ⟨by simp, rfl⟩
end Go.Proofs.Ytdmdmbcapjmnlab
