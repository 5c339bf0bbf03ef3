/- Towards the statements of package code (layer 8): the subprograms in memory; leaves: does an instruction lead out of its subprogram? -/
import Derived.Test.YtdmdmbcapjmnlabCG
import Derived.Deep.RegionHeld3
namespace Go.Proofs.Ytdmdmbcapjmnlab
open Go.ChangeShapes Go.WideShapes Go.ChangeAt
open Go.RowKit Go.Shelf
set_option linter.unusedVariables false
set_option linter.unusedSimpArgs false
set_option maxRecDepth 20000
attribute [local go_sem] Oper.semAt_some

/-- Subprograms, from and to, in the block sb. -/
structure SubsAt (w : World) (sb : Nat) (vs : Value) (SL : List (Nat × Nat)) : Prop where
  val : ∃ cap, vs = .slice (some ⟨sb, 0, none⟩) SL.length cap
  lt : sb < w.heap.size
  len : SL.length ≤ 4096
  small : ∀ x ∈ SL, x.1 ≤ 4096 ∧ x.2 ≤ 4096
  cell : ∀ (j : Nat) (x : Nat × Nat), SL[j]? = some x → w.cell? ⟨sb, j * 2, none⟩ = some (.int .i64 x.1) ∧ w.cell? ⟨sb, j * 2 + 1, none⟩ = some (.int .i64 x.2)
/-- The subprograms of the slots, in the block hb. -/
structure HomeAt (w : World) (hb : Nat) (vh : Value) (HL : List Nat) : Prop where
  val : ∃ cap, vh = .slice (some ⟨hb, 0, none⟩) HL.length cap
  lt : hb < w.heap.size
  len : HL.length ≤ 4096
  cell : ∀ (j : Nat) (x : Nat), HL[j]? = some x → w.cell? ⟨hb, j, none⟩ = some (.int .i64 x)
theorem SubsAt.keep {S : Nat → Prop} {w w' : World} {sb : Nat} {vs : Value} {SL : List (Nat × Nat)} (h : SubsAt w sb vs SL) (hS : S sb) (hk : Keep S w w') (hs : w.heap.size ≤ w'.heap.size) : SubsAt w' sb vs SL :=
  ⟨h.val, Nat.lt_of_lt_of_le h.lt hs, h.len, h.small, fun j x hx => ⟨(hk.cell (p := ⟨sb, _, none⟩) hS).trans (h.cell j x hx).1, (hk.cell (p := ⟨sb, _, none⟩) hS).trans (h.cell j x hx).2⟩⟩
theorem HomeAt.keep {S : Nat → Prop} {w w' : World} {hb : Nat} {vh : Value} {HL : List Nat} (h : HomeAt w hb vh HL) (hS : S hb) (hk : Keep S w w') (hs : w.heap.size ≤ w'.heap.size) : HomeAt w' hb vh HL :=
  ⟨h.val, Nat.lt_of_lt_of_le h.lt hs, h.len, fun j x hx => (hk.cell (p := ⟨hb, _, none⟩) hS).trans (h.cell j x hx)⟩
theorem SubsAt.gr {w w' : World} {sb : Nat} {vs : Value} {SL : List (Nat × Nat)} (h : SubsAt w sb vs SL) (hb : Below w.heap.size w w') : SubsAt w' sb vs SL := h.keep (S := (· < w.heap.size)) h.lt (.of hb fun _ h => h) hb.size
theorem HomeAt.gr {w w' : World} {hb : Nat} {vh : Value} {HL : List Nat} (h : HomeAt w hb vh HL) (hb' : Below w.heap.size w w') : HomeAt w' hb vh HL := h.keep (S := (· < w.heap.size)) h.lt (.of hb' fun _ h => h) hb'.size

theorem cell_al {W : World} {a : Addr} {v : Value} {o : Obj} (h : W.cell? a = some v) : (W.alloc o).cell? a = some v := cell_kept h (World.grownBy_alloc W o none) (fun r e => by cases e)
theorem cell_dr {W : World} {a : Addr} {v : Value} (h : W.cell? a = some v) : W.drew.cell? a = some v := h
theorem cell_st {W : World} {a b : Addr} {u v : Value} (hb : a.block ≠ b.block) (h : W.cell? a = some v) : (W.setCell b u).cell? a = some v := (World.cell?_of_block (Below.heap_setCell W b u a.block hb)).trans h
def outB (x : Nat × Nat) (t : Int) : Bool := decide (t < x.1) || decide (t ≥ x.2)
set_option maxRecDepth 100000 in
set_option maxHeartbeats 4000000 in
theorem leaves_in (n : Nat) (hn : 3 ≤ n) (P sb hb : Nat) (sv vb vs vh : Value) (L : List Sl) (SL : List (Nat × Nat)) (HL : List Nat) (k h : Nat) (x : Nat × Nat) (hh : HL[k]? = some h) (hxs : SL[h]? = some x)
    (w : World) (hR : Rec w P sv vb vs vh) (hL : Slots AnyB w sv L) (hS : SubsAt w sb vs SL) (hH : HomeAt w hb vh HL) :
    CallsIn Fence.wide n Try.prog 34 #[.pointer (some ⟨P, 0, none⟩), .int .i64 k] w fun e w' => e = .returned (.bool ((leadsM L k).any (outB x))) ∧ Below w.heap.size w w' := by
  have h1 : 1 ≤ n := by omega
  obtain ⟨p, c, rfl⟩ := hL.shape
  obtain ⟨cs, rfl⟩ := hS.val
  obtain ⟨ch, rfl⟩ := hH.val
  have hk1 : k < HL.length := (List.getElem?_eq_some_iff.1 hh).1
  have hh1 : h < SL.length := (List.getElem?_eq_some_iff.1 hxs).1
  have hl1 := hS.len
  have hl2 := hH.len
  refine callsIn_of_wp_marks Try.func34 rfl trivial ?_ rfl
  simp only [Try.ntmps34, List.size_toArray, List.length_cons, List.length_nil, Nat.reduceAdd, Nat.reduceSub, Array.replicate_succ, Array.replicate_zero, List.push_toArray, List.append_toArray, List.nil_append, List.cons_append]
  gi_wp2
  have hb1 : Below w.heap.size w (w.alloc (.cells #[.bool false] 4)) := (Below.refl _ w).alloc (Nat.le_refl _) _
  have hs1 : (w.alloc (.cells #[.bool false] 4)).heap.size = w.heap.size + 1 := by simp
  have q0 : (w.alloc (.cells #[.bool false] 4)).heap[w.heap.size]? = some (.cells #[.bool false] 4) := World.alloc_heap_new w _
  have hR1 := hR.gr hb1
  have hL1 := hL.gr hb1
  have hS1 := hS.gr hb1
  have hH1 := hH.gr hb1
  generalize w.alloc (.cells #[.bool false] 4) = w1 at hb1 hs1 q0 hR1 hL1 hS1 hH1 ⊢
  obtain ⟨r0, r1, r2, r3⟩ := hR1.cells
  obtain ⟨s0, s1⟩ := hS1.cell h x hxs
  have t0 := hH1.cell k h hh
  have lp := hR1.lt
  have ls := hS1.lt
  have lh := hH1.lt
  refine wpIn_wide.2 ?_
  go_region_held3 (fun w' => w'.cell? ⟨P, 2, none⟩ = some (.slice (some ⟨sb, 0, none⟩) SL.length cs) ∧ w'.cell? ⟨P, 3, none⟩ = some (.slice (some ⟨hb, 0, none⟩) HL.length ch) ∧ w'.cell? ⟨sb, h * 2, none⟩ = some (.int .i64 x.1) ∧ w'.cell? ⟨sb, h * 2 + 1, none⟩ = some (.int .i64 x.2) ∧ w'.cell? ⟨hb, k, none⟩ = some (.int .i64 h)) ((refine ⟨?_, ?_, ?_, ?_, ?_⟩ <;> repeat (with_reducible (first | assumption | apply cell_al | apply cell_dr | (refine cell_st (by simp <;> omega) ?_))))) (fail)
  have hbw : Below w1.heap.size w1 ((w1.alloc (.cells #[.int .i64 x.1, .int .i64 x.2] 37)).drew) := (((Below.refl _ w1).alloc (Nat.le_refl _) _)).drew
  have hs2 : ((w1.alloc (.cells #[.int .i64 x.1, .int .i64 x.2] 37)).drew).heap.size = w.heap.size + 2 := by show (w1.alloc _).heap.size = _; simp [hs1]
  have q1 : ((w1.alloc (.cells #[.int .i64 x.1, .int .i64 x.2] 37)).drew).heap[w.heap.size + 1]? = some (.cells #[.int .i64 x.1, .int .i64 x.2] 37) := by rw [← hs1]; exact World.alloc_heap_new w1 _
  have q0' := (hbw.block _ (by omega)).trans q0
  have hR2 := hR1.gr hbw
  have hL2 := hL1.gr hbw
  have hb2 := hb1.trans (hbw.mono (by omega))
  generalize ((w1.alloc (.cells #[.int .i64 x.1, .int .i64 x.2] 37)).drew) = w2 at hbw hs2 q1 q0' hR2 hL2 hb2 ⊢
  obtain ⟨r0, r1, r2, r3⟩ := hR2.cells
  gi_wp2_with (refine ⟨trivial, ?_⟩; gi_at_call 18; refine (callsIn_wide.2 (leads_any _ _ _ _ _)).mono ?_; rintro e w' ⟨rfl, hw'⟩; rw [hw']; clear hw')
  obtain ⟨W0, hW0⟩ : ∃ W0, ((w2.alloc (.cells #[.slice p L.length c] 22)).alloc (.cells #[.int .i64 k] 3)) = W0 := ⟨_, rfl⟩
  have hit := leads_iter (fun x : Int => x) (leadsM L k) AnyB p L.length c L k w2 hL2 (by simp)
  rw [hs2, hW0] at hit
  rw [hW0]
  have hbW : Below w2.heap.size w2 W0 := by rw [← hW0]; exact ((Below.refl _ w2).alloc (Nat.le_refl _) _).alloc (by simp) _
  have hs0 : W0.heap.size = w.heap.size + 4 := by rw [← hW0]; simp [hs2]
  have p0 := (hbW.block _ (by omega)).trans q0'
  have p1 := (hbW.block _ (by omega)).trans q1
  have hb0 : Below w.heap.size w W0 := hb2.trans (hbW.mono (by omega))
  clear hW0 r0 r1 r2 r3 q0' q0 q1 hR2 hL2 hbW hs2 hb2 hbw hR1 hL1 hS1 hH1 s0 s1 t0
  refine wpIn_rangeFunc_ownG rfl h1 (gf := 43) rfl trivial hit.enters
    (hit.stops (n - 1) (by omega)) hit.trans (fun W l o o' hl ho h2 h3 => hit.keeps _ _ (belowK_b (w := W0) (Nat.le_refl _) W l o o' hl ho h2 h3)) (Below.refl _ _) (fun _ => rfl)
    (fun pre W => (∀ t ∈ pre, outB x t = false) ∧ Below W0.heap.size W0 W)
    (fun c pre W => c = .ret ∧ (∃ t ∈ pre, outB x t = true) ∧ W.cell? ⟨w.heap.size, 0, none⟩ = some (.bool true) ∧ Below w.heap.size w W)
    (OwnFrom.and (fun s A B row hs hg hr => hs) (ownFrom_below (Nat.le_refl _) (Nat.le_refl _)))
    (fun c s A B row hs hg hr => ⟨hs.1, hs.2.1, cell_kept hs.2.2.1 hg (fun r e => (hr r e).2), ownFrom_below (Nat.le_refl _) (by omega) s A B row hs.2.2.2 hg hr⟩)
    ⟨by simp, Below.refl _ _⟩
    (fun t => { tmps := #[.pointer (some ⟨P, 0, none⟩), .int .i64 k, undef, undef, .pointer (some ⟨w.heap.size, 0, none⟩), .pointer (some ⟨w.heap.size + 1, 0, none⟩), .int .i64 t, .pointer (some ⟨P, 0, none⟩), .pointer (some ⟨P, 0, none⟩), .pointer (some ⟨P, 2, none⟩), .slice (some ⟨sb, 0, none⟩) SL.length cs, .pointer (some ⟨P, 0, none⟩), .pointer (some ⟨P, 0, none⟩), .pointer (some ⟨P, 3, none⟩), .slice (some ⟨hb, 0, none⟩) HL.length ch, .int .i64 k, .pointer (some ⟨hb, k, none⟩), .int .i64 h, .pointer (some ⟨sb, h * 2, none⟩), .agg #[.int .i64 x.1, .int .i64 x.2], .pointer (some ⟨P, 0, none⟩), .pointer (some ⟨P, 0, none⟩), .pointer (some ⟨P, 0, none⟩), .slice p L.length c, .int .i64 k, .func (.func 43) #[] #[.pointer (some ⟨w.heap.size + 2, 0, none⟩), .pointer (some ⟨w.heap.size + 2 + 1, 0, none⟩)], .int .i64 t, undef, undef, undef, undef, undef, undef, undef, undef, undef, undef], defers := [] }) ?assign ?body ?done ?stop
  case assign =>
    intro l x W K hK
    gi_wp2
    exact hK
  case body =>
    rintro l pre t W ⟨hp, hW⟩ hlt
    have cx := cellOf ((hW.block _ (by omega)).trans p1) (show #[Value.int .i64 x.1, .int .i64 x.2][0]? = some (Value.int .i64 x.1) from rfl)
    have cy := cellOf ((hW.block _ (by omega)).trans p1) (show #[Value.int .i64 x.1, .int .i64 x.2][1]? = some (Value.int .i64 x.2) from rfl)
    have crW := cellOf ((hW.block _ (by omega)).trans p0) (show #[Value.bool false][0]? = some (Value.bool false) from rfl)
    have frW : W.frozen? ⟨w.heap.size, 0, none⟩ = false := by simp [World.frozen?, (hW.block _ (by omega)).trans p0]
    by_cases ht1 : t < x.1
    · have hd : decide (t < (x.1 : Int)) = true := by simp [ht1]
      gi_wp2
      exact ⟨(KeepsOthers.setCell _ _ _).from _, rfl, ⟨t, by simp, by simp [outB, ht1]⟩, World.cell?_setCell_same' _ _ _ (by rw [crW]; rfl), (hb0.trans (hW.mono (by omega))).setCell (p := ⟨w.heap.size, 0, none⟩) (by simp) _⟩
    · have hd : decide (t < (x.1 : Int)) = false := by simp; omega
      by_cases ht2 : t ≥ x.2
      · have hd2 : decide ((x.2 : Int) ≤ t) = true := by simp; omega
        gi_wp2
        exact ⟨(KeepsOthers.setCell _ _ _).from _, rfl, ⟨t, by simp, by simp [outB]; omega⟩, World.cell?_setCell_same' _ _ _ (by rw [crW]; rfl), (hb0.trans (hW.mono (by omega))).setCell (p := ⟨w.heap.size, 0, none⟩) (by simp) _⟩
      · have hd2 : decide ((x.2 : Int) ≤ t) = false := by simp; omega
        gi_wp2
        exact ⟨KeepsFrom.refl _ _, hit.keeps _ _ (Below.refl _ _), fun y hy => (List.mem_append.1 hy).elim (hp y) (fun e => by simp at e; rw [e]; simp [outB]; omega), by first | exact hW | (rw [← hs0]; exact hW)⟩
  case stop =>
    rintro D cc pre W hD hpre ⟨rfl, ⟨t, ht, htb⟩, crW, hbW⟩ hK
    gi_wp2
    refine ⟨by simp, .inl ⟨_, _, rfl, run_takeDeferred hK, ?_⟩⟩
    have e2 := cell_kept crW (grownBy_putObj' _ D (.deferred none)) (fun r e => by cases e; exact ⟨_, hK, rfl⟩)
    refine ⟨.bool true, ?_, ?_, hbW.trans (belowK_b (w := w) (Nat.le_refl _) _ D _ _ (by omega) hK rfl rfl)⟩
    · simp [results, Try.f34, go_sem, e2]
    · rw [List.any_eq_true.2 ⟨t, hpre.subset ht, htb⟩]
  case done =>
    rintro D ys W hD rfl ⟨hp, hW⟩ hKW
    have hbW := hb0.trans (hW.mono (by omega))
    have crW := cellOf ((hW.block _ (by omega)).trans p0) (show #[Value.bool false][0]? = some (Value.bool false) from rfl)
    have frW : W.frozen? ⟨w.heap.size, 0, none⟩ = false := by simp [World.frozen?, (hW.block _ (by omega)).trans p0]
    have hany : (leadsM L k).any (outB x) = false := List.any_eq_false.2 fun t ht => by simp [hp t ht]
    gi_wp2
    have hK' := (KeepsOthers.setCell _ ⟨w.heap.size, 0, none⟩ (.bool false)).same D _ hKW rfl
    refine ⟨by simp, .inl ⟨_, _, rfl, run_takeDeferred hK', ?_⟩⟩
    have e2 := cell_kept (World.cell?_setCell_same' _ ⟨w.heap.size, 0, none⟩ (.bool false) (by rw [crW]; rfl)) (grownBy_putObj' _ D (.deferred none)) (fun r e => by cases e; exact ⟨_, hK', rfl⟩)
    refine ⟨.bool false, ?_, by rw [hany], (hbW.setCell (p := ⟨w.heap.size, 0, none⟩) (by simp) _).trans (belowK_b (w := w) (Nat.le_refl _) _ D _ _ (by omega) hK' rfl rfl)⟩
    simp [results, Try.f34, go_sem, e2]
end Go.Proofs.Ytdmdmbcapjmnlab
