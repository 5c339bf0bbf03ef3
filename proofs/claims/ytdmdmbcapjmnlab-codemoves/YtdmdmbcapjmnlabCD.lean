/- Towards the statements of package code (layer 8): slices.AppendSeq, Collect, Sorted at ints, of any iterator; Next. -/
import Derived.Test.YtdmdmbcapjmnlabCC
import Derived.Test.YtdmdmbcapjmnlabShelf
import Derived.Lib.SmallJoins
import Derived.Sort.OwnSortedInts
import Derived.Lib.OwnBridge
namespace Go.Proofs.Ytdmdmbcapjmnlab
open Go.ChangeShapes Go.WideShapes Go.ChangeAt
open Go.RowKit Go.Shelf
set_option linter.unusedVariables false
set_option linter.unusedSimpArgs false
set_option maxRecDepth 20000
attribute [local go_sem] Oper.semAt_some

theorem info3 : (Try.prog.info? 3).map (fun i => (i.zero, i.size, i.bytes)) = some (some (.int .i64 0), 1, 8) := by kernel_rfl
/-- New memory of the call's own: the numbers xs. -/
def Own (w w' : World) (v : Value) (xs : List Int) : Prop := w'.ownsRow w.heap.size 3 1 v xs.length (xs.map (Value.int .i64)) ∧ Below w.heap.size w w'
/-- A function value that gives the numbers of xs, to every loop that keeps what Kp says. -/
structure Iter {α : Type} (enc : α → Int) (w : World) (g : Nat) (lb : Array Value) (Kp : World → World → Prop) (xs : List α) (N : Nat) : Prop where
  enters : ∀ args w, (callFunc g args).run Try.prog w = .ok (.enter g args) w
  stops : ∀ n, 1 ≤ n → SeqStopsK Fence.wide n Try.prog g lb (fun x : α => #[Value.int .i64 (enc x)]) Kp (fun ys => ys = xs) (fun pre => pre <+: xs) N w
  trans : ∀ {A B C : World}, Kp A B → Kp B C → Kp A C
  keeps : ∀ W W', Below w.heap.size W W' → Kp W W'
theorem Iter.gr {α : Type} {enc : α → Int} {w w' : World} {g : Nat} {lb : Array Value} {Kp : World → World → Prop} {xs : List α} {N : Nat} (h : Iter enc w g lb Kp xs N) (hb : Below w.heap.size w w') : Iter enc w' g lb Kp xs N :=
  ⟨h.enters, fun n hn l J Jx W hW => h.stops n hn l J Jx W (hb.trans (hW.mono hb.size)), h.trans, fun W W' hW => h.keeps W W' (hW.mono hb.size)⟩

set_option maxRecDepth 100000 in
set_option maxHeartbeats 2000000 in
theorem appendSeq_in (n : Nat) (hn : 3 ≤ n) (g : Nat) (lb : Array Value) (Kp : World → World → Prop) (xs : List Int) (N : Nat) (hN : N ≤ 4096) (w : World) (hit : Iter (fun x : Int => x) w g lb Kp xs N) :
    CallsIn Fence.wide n Try.prog 59 #[.slice none 0 0, .func (.func g) #[] lb] w fun e W' => ∃ v, e = .returned v ∧ Own w W' v xs := by
  have h1 : 1 ≤ n := by omega
  obtain ⟨i0, hi, hz0, hz1, hz2⟩ := info_parts info3
  refine callsIn_of_wp_marks Try.func59 rfl trivial ?_ rfl
  simp only [Try.ntmps59, List.size_toArray, List.length_cons, List.length_nil, Nat.reduceAdd, Nat.reduceSub, Array.replicate_succ, Array.replicate_zero, List.push_toArray, List.append_toArray, List.nil_append, List.cons_append]
  gi_wp2
  have bO := Boxed.new w 34 (.slice none 0 0)
  have hB0 : Below w.heap.size w (w.alloc (.cells #[.slice none 0 0] 34)) := (Below.refl _ w).alloc (Nat.le_refl _) _
  refine wpIn_rangeFunc_ownG rfl h1 (gf := g) (lb := lb) rfl trivial hit.enters
    ((hit.gr hB0).stops (n - 1) (by omega)) hit.trans (fun W l o o' hl ho h2 h3 => hit.keeps _ _ (belowK_b (w := w.alloc (.cells #[.slice none 0 0] 34)) (by simp) W l o o' hl ho h2 h3)) (Below.refl _ _) (fun _ => rfl)
    (fun pre W => (∃ v, Boxed W w.heap.size 34 v ∧ W.ownsRow w.heap.size 3 1 v pre.length (pre.map (Value.int .i64)) ∧ (v = .slice none 0 0 ↔ pre = [])) ∧ Below w.heap.size w W)
    (fun _ _ _ => False)
    (OwnFrom.and (Own.from (holdsRow_own w.heap.size w.heap.size 34 3 1 (fun pre : List Int => pre.length) (fun pre => pre.map (Value.int .i64)) (fun pre v => v = .slice none 0 0 ↔ pre = [])) _) (ownFrom_below (Nat.le_refl _) (by simp)))
    (fun _ _ _ _ _ hs _ _ => hs)
    ⟨⟨_, bO, World.ownsRow_nil _ _ _ _, by simp⟩, hB0⟩
    (fun x => { tmps := #[.slice none 0 0, .func (.func g) #[] lb, .pointer (some ⟨w.heap.size, 0, none⟩), undef, .slice none 0 0, .int .i64 x, .func (.func g) #[] lb, .int .i64 x, undef, undef, undef, undef, undef], defers := [] }) ?assign ?body ?done ?stop
  case assign =>
    intro l x W K hK
    gi_wp2
    exact hK
  case body =>
    rintro l pre x W ⟨⟨v, hv, hrow, hnil⟩, hB⟩ hlt
    have hc := hv.cell
    gi_wp2_with (gi_at_builtin; refine wpListIn_append_own _ rfl _ _ 34 rfl w.heap.size 3 i0 (.int .i64 0) 1 8 Try.underlying34 hi hz0 hz1 hz2 rfl (by decide) _ _ _ rfl (hrow.alloc _) ⟨W.heap.size, 0, none⟩ 1 1 [.int .i64 x] rfl rfl (cell_one_new _ _ _) (by simp [Value.oneCell']) (by simp [maxLen]; omega) (by omega) (by have := hB.size; simp; omega) ?_; intro v' w1 hown' hgrow _; obtain ⟨g', cap', rfl⟩ := ownsRow_succ hown'; obtain ⟨hv1, hv2, hr2, hk2, hb2⟩ := hv.appended (by decide) hrow hB.size (Nat.le_refl _) hown' hgrow; have hc1 := hv1.cell; have hf1 := hv1.frozen)
    exact ⟨hk2.from _, hit.keeps _ _ hb2, ⟨_, hv2, by simpa using hr2, by simp⟩, hB.trans hb2⟩
  case done =>
    rintro D ys W hD rfl ⟨⟨v, hv, hrow, hnil⟩, hB⟩ hK
    have hc := hv.cell
    gi_wp2
    refine ⟨by simp, .inl ⟨_, _, rfl, run_takeDeferred hK, ?_⟩⟩
    exact ⟨_, results_tmp rfl _ _ _, v, rfl, ownsRow_putObj hrow _ hK rfl, hB.trans (belowK_b (w := w) (Nat.le_refl _) W D _ _ (by simp at hD; omega) hK rfl rfl)⟩
  case stop =>
    rintro D c pre W _ _ h _
    exact h.elim
theorem collect_any (g : Nat) (lb : Array Value) (Kp : World → World → Prop) (xs : List Int) (N : Nat) (hN : N ≤ 4096) (w : World) (hit : Iter (fun x : Int => x) w g lb Kp xs N) :
    Calls Try.prog 41 #[.func (.func g) #[] lb] w fun e w' => ∃ v, e = .returned v ∧ Own w w' v xs := by
  have c1 := callsIn_wide.1 (appendSeq_in 3 (Nat.le_refl _) g lb Kp xs N hN w hit)
  go_enter Try.func41, Try.ntmps41
  go_wp2_with (go_at_call 59; refine c1.mono ?_; rintro e w' ⟨v, rfl, hv⟩)
  go_ret
  exact ⟨v, rfl, hv⟩
theorem grown_refl (w : World) (r : Option Nat) : w.grownBy w r := ⟨rfl, rfl, rfl, Nat.le_refl _, fun _ _ _ => rfl⟩
theorem ms_len (xs : List Int) : (xs.mergeSort fun x y => decide (x ≤ y)).length = xs.length := List.length_mergeSort _
/-- slices.Sort of memory of the call's own. -/
theorem sort_own (B : Nat) (v : Value) (xs : List Int) (hl : xs.length ≤ 8192) (w : World) (h : w.ownsRow B 3 1 v xs.length (xs.map (Value.int .i64))) :
    Calls Try.prog 42 #[v] w fun e w' => e = .returned (.tuple #[]) ∧ w'.ownsRow B 3 1 v xs.length ((xs.mergeSort fun x y => decide (x ≤ y)).map (Value.int .i64)) ∧ Below B w w' ∧ w.grownBy w' v.ownBlock := by
  rcases h.2 with ⟨rfl, h0⟩ | ⟨g, cap, cur, rfl, hb, hg, hn, hm, hs, ht⟩
  · refine (Try.slices_Sort_int_none none 0 w).mono ?_
    rintro e w' ⟨rfl, rfl⟩
    obtain rfl : xs = [] := List.length_eq_zero_iff.1 h0
    exact ⟨rfl, by simpa using h, Below.refl _ _, grown_refl _ _⟩
  · have hlt : g < w.heap.size := (Array.getElem?_eq_some_iff.1 hg).1
    refine (Try.slices_Sort_int g 0 cap xs w (holds_of_blockI hg (by simpa using ht)) hlt (by omega)).mono ?_
    rintro e w' ⟨rfl, n, os, rfl⟩
    exact ⟨rfl, ownsRow_sortedI (ms_len xs) hb hg hn hm hs, (Below.refl B w).grown (grownBy_sortedI _) (by omega) (fun k e => by cases e; exact hb), grownBy_sortedI _⟩
theorem compact_len (xs : List Int) : (Lib.compact xs).length ≤ xs.length := Lib.compact_length_le xs
theorem compact_own (B : Nat) (v : Value) (xs : List Int) (hl : xs.length ≤ 8192) (w : World) (h : w.ownsRow B 3 1 v xs.length (xs.map (Value.int .i64))) :
    Calls Try.prog 16 #[v] w fun e w' => ∃ v2, e = .returned v2 ∧ w'.ownsRow B 3 1 v2 (Lib.compact xs).length ((Lib.compact xs).map (Value.int .i64)) ∧ Below B w w' ∧ w.grownBy w' v.ownBlock := by
  rcases h.2 with ⟨rfl, h0⟩ | ⟨g, cap, cur, rfl, hb, hg, hn, hm, hs, ht⟩
  · refine (Try.slices_Compact_int_empty none 0 w).mono ?_
    rintro e w' ⟨rfl, rfl⟩
    obtain rfl : xs = [] := List.length_eq_zero_iff.1 h0
    exact ⟨_, rfl, World.ownsRow_nil _ _ _ _, Below.refl _ _, grown_refl _ _⟩
  · have hlt : g < w.heap.size := (Array.getElem?_eq_some_iff.1 hg).1
    refine (Try.slices_Compact_int g 0 cap xs w (holds_of_blockI hg (by simpa using ht)) (by omega) hn).mono ?_
    rintro e w' ⟨rfl, q, rfl⟩
    have hc := compact_len xs
    refine ⟨_, rfl, ?_, Lib.below_putRow (Below.refl _ _) hb, by have := grownBy_sortedI (w := w) (g := g) (n := q) (os := #[]) (Lib.compact xs ++ List.replicate (xs.length - (Lib.compact xs).length) 0).toArray; rw [Sort.grow_empty] at this; exact this⟩
    have := Lib.ownsRow_putRow (enc := Value.int .i64) (q := q) (k := (Lib.compact xs).length) (zs := xs) (ys := Lib.compact xs ++ List.replicate (xs.length - (Lib.compact xs).length) 0) h (by simp; omega) hc
    simpa using this
theorem sorted_any (g : Nat) (lb : Array Value) (Kp : World → World → Prop) (xs : List Int) (hx : xs.length ≤ 8192) (N : Nat) (hN : N ≤ 4096) (w : World) (hit : Iter (fun x : Int => x) w g lb Kp xs N) :
    Calls Try.prog 17 #[.func (.func g) #[] lb] w fun e w' => ∃ v, e = .returned v ∧ Own w w' v (xs.mergeSort fun x y => decide (x ≤ y)) := by
  go_enter Try.func17, Try.ntmps17
  go_wp2_with first | (go_at_call 41; refine (collect_any g lb Kp xs N hN w hit).mono ?_; rintro e w' ⟨v, rfl, hv, hb⟩) | (go_at_call 42; refine (sort_own w.heap.size v xs hx _ hv).mono ?_; rintro e w2 ⟨rfl, hv2, hb2, _⟩)
  go_returns
  exact ⟨v, rfl, by rw [ms_len]; exact hv2, hb.trans hb2⟩
/-- Where an instruction leads, rising, each once. -/
def nextM (L : List Sl) (at_ : Int) : List Int := Lib.compact ((leadsM L at_).mergeSort fun x y => decide (x ≤ y))
theorem leadsM_len (L : List Sl) (at_ : Int) : (leadsM L at_).length ≤ 2 := by
  unfold leadsM; repeat (first | split | simp)
theorem leads_iter {α : Type} (enc : α → Int) (xs : List α) (S : Nat → Prop) (p : Option Addr) (n c : Nat) (L : List Sl) (at_ : Int) (w : World) (hL : Slots S w (.slice p n c) L) (hxs : xs.map enc = leadsM L at_) :
    Iter enc ((w.alloc (.cells #[.slice p n c] 22)).alloc (.cells #[.int .i64 at_] 3)) 43 #[.pointer (some ⟨w.heap.size, 0, none⟩), .pointer (some ⟨w.heap.size + 1, 0, none⟩)] (fun W W' => Keep (fun b => b = w.heap.size ∨ b = w.heap.size + 1 ∨ (S b ∧ b < w.heap.size)) W W' ∧ W.heap.size ≤ W'.heap.size) xs 2 := by
  have hb0 : Below w.heap.size w ((w.alloc (.cells #[.slice p n c] 22)).alloc (.cells #[.int .i64 at_] 3)) := ((Below.refl _ w).alloc (Nat.le_refl _) _).alloc (by simp) _
  have hS : ∀ b, (b = w.heap.size ∨ b = w.heap.size + 1 ∨ (S b ∧ b < w.heap.size)) → b < ((w.alloc (.cells #[.slice p n c] 22)).alloc (.cells #[.int .i64 at_] 3)).heap.size := fun b h => by simp; omega
  refine ⟨enters_of Try.func43 (by kernel_rfl) rfl, fun m hm => leads1_stops enc m hm w.heap.size (w.heap.size + 1) _ (.slice p n c) L at_ xs hxs _ (.inl rfl) (.inr (.inl rfl)) hS ?_ ?_ ?_, fun h k => ⟨h.1.trans k.1, Nat.le_trans h.2 k.2⟩, fun W W' h => ⟨.of h hS, h.size⟩⟩
  · exact ((Boxed.new w 22 (.slice p n c)).alloc _).cell
  · have := (Boxed.new (w.alloc (.cells #[.slice p n c] 22)) 3 (.int .i64 at_)).cell
    rwa [World.size_alloc] at this
  · have hh := hL.gr hb0
    refine ⟨hL.ok, hL.len, ?_⟩
    rcases hL.at' with e | ⟨b, off, cap, e, hs, hlt, _⟩
    · exact .inl e
    · rcases hh.at' with e' | ⟨b', off', cap', e', hs', hlt', hc'⟩
      · exact .inl e'
      · rw [e] at e'; cases e'; exact .inr ⟨b, off, cap, e, .inr (.inr ⟨hs, hlt⟩), hlt', hc'⟩
theorem next_any (S : Nat → Prop) (sv : Value) (L : List Sl) (at_ : Int) (w : World) (hL : Slots S w sv L) :
    Calls Try.prog 8 #[sv, .int .i64 at_] w fun e w' => ∃ v, e = .returned v ∧ Own w w' v (nextM L at_) := by
  obtain ⟨p, c, rfl⟩ := hL.shape
  have hit := leads_iter (fun x : Int => x) (leadsM L at_) S p _ c L at_ w hL (by simp)
  have hb0 : Below w.heap.size w ((w.alloc (.cells #[.slice p L.length c] 22)).alloc (.cells #[.int .i64 at_] 3)) := ((Below.refl _ w).alloc (Nat.le_refl _) _).alloc (by simp) _
  have hl2 := leadsM_len L at_
  have hsz : w.heap.size ≤ ((w.alloc (.cells #[.slice p L.length c] 22)).alloc (.cells #[.int .i64 at_] 3)).heap.size := hb0.size
  have k1 := leads_any p L.length c at_ w
  go_enter Try.func8, Try.ntmps8
  go_wp2_with first | (go_at_call 18; refine k1.mono ?_; rintro e w' ⟨rfl, rfl⟩) | (go_at_call 17; refine (sorted_any _ _ _ _ (by omega) 2 (by omega) _ hit).mono ?_; rintro e w1 ⟨v, rfl, hv, hb⟩) | (go_at_call 16; refine (compact_own w.heap.size v _ (by rw [ms_len]; omega) _ (Joins.ownsRow_le hv hsz)).mono ?_; rintro e w2 ⟨v2, rfl, hv2, hb2, _⟩)
  go_returns
  exact ⟨v2, rfl, hv2, hb0.trans ((hb.mono hsz).trans hb2)⟩
end Go.Proofs.Ytdmdmbcapjmnlab
