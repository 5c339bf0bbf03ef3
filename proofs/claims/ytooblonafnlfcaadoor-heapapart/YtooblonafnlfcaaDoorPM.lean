/- Towards HeapApart: a step, of a heap and of the document's that is empty. -/
import Derived.Test.YtooblonafnlfcaaDoorPL
namespace Go.Proofs.YtooblonafnlfcaaDoor
open Go.ChangeShapes Go.WideShapes Go.ChangeAt Go.RowKit
set_option linter.unusedVariables false
set_option linter.unusedSimpArgs false
set_option maxRecDepth 20000
variable {Yo : Nat → Prop}
theorem Fq.atT {B : Nat} {q : HQ} {w w' : World} {room used : Int} {N : Int → Nat} {M : MJ} {ns : Nat} {A K : Nat → Nat} {n : Nat} (h : Fq Yo B q w w') (hp : Hp Yo w B q room used N M ns A K n) {z : Nat} {cs : Array Value} {t : TypeId} {x : Nat × Nat} (hz : w.heap[z]? = some (.cells cs t x)) (ht : t ≠ 124 ∧ t ≠ 5 ∧ t ≠ 87 ∧ t ≠ 100) : w'.heap[z]? = some (.cells cs t x) := by
  obtain ⟨ds, hds⟩ := hp.sl.cellsS
  obtain ⟨F, hF1, _⟩ := hp.tb.im1
  refine h.keep z _ ?_ ?_ ?_ ?_ hz (by rintro cs z e; cases e; exact ht.1 rfl) (by rintro cs z e; cases e; exact ht.2.1 rfl) (by rintro cs z e; cases e; exact ht.2.2.1 rfl)
  · rintro rfl; rw [hz] at hds; cases hds; exact ht.2.2.2 rfl
  · rintro rfl; exact hF1.notc hz
  · rintro rfl; exact hp.tb.im2.notc hz
  · rintro rfl; exact hp.ow.im.notc hz
theorem on_zero {M : MJ} {s : Int} {g : Nat} (f : Oj → Option Oj) {o : Oj} (h0 : M 0 = some o) (hne : ¬ (s = 0 ∧ g = o.g)) : onM M s g f 0 = some o := by
  cases hL : liveB M s g with
  | false => rw [on_dead hL]; exact h0
  | true =>
    obtain ⟨k, o', rfl, hM, rfl⟩ := live_at hL
    rw [on_live hM, updM_ne _ _ (fun e => hne ?_)]
    · exact h0
    · subst e
      rw [h0] at hM
      cases hM
      exact ⟨rfl, rfl⟩
set_option maxHeartbeats 2000000 in
theorem does_any (w : World) (B : Nat) (q : HQ) (room used : Int) (N : Int → Nat) (M : MJ) (ns : Nat) (A K : Nat → Nat) (n : Nat) (h : Hp Yo w B q room used N M ns A K n) (hT : Tab w) (h0 : 0 < B) (r : Nat) (u v : Value) (hr : w.heap[r]? = some (.cells #[u, v, .slice none 0 0] 50 (0, 0)))
    (x : Sp) (hx : SpOk x) (hs : Int) (hg : Nat) (hn : ctM M hs hg + 1 ≤ n) :
    Calls Tryd.prog 15 #[.pointer (some ⟨q.b, 0, none⟩), .pointer (some ⟨r, 0, none⟩), spV x, .agg #[.int .i64 hs, .int .u64 hg]] w fun e w' => (∃ b : Bool, e = .returned (.bool b)) ∧ ∃ used' M', Hp Yo w' B q room used' N M' ns A K n ∧ Fq Yo B q w w' ∧ (∀ o, M 0 = some o → ¬ (hs = 0 ∧ hg = o.g) → M' 0 = some o) := by
  unfold spV
  have hB := h.size
  have hbA := (Below.refl w.heap.size w).alloc (Nat.le_refl _) (.cells (spC x) 36)
  have hbB := hbA.alloc (by simp) (.cells #[.int .i64 hs, .int .u64 hg] 34)
  have hz6 := heap_al (heap_alloc_new w (.cells (spC x) 36)) (.cells #[.int .i64 hs, .int .u64 hg] 34)
  have hz7 : ((w.alloc (.cells (spC x) 36)).alloc (.cells #[.int .i64 hs, .int .u64 hg] 34)).heap[w.heap.size + 1]? = some (.cells #[.int .i64 hs, .int .u64 hg] 34 (0, 0)) := by simpa using heap_alloc_new (w.alloc (.cells (spC x) 36)) (.cells #[.int .i64 hs, .int .u64 hg] 34)
  have hrB := (hbB.block _ (heap_lt hr)).trans hr
  have hH := h.kept hbB
  have hTB := hT.gr (B := w.heap.size) (by omega) hbB
  have hFB : Fq Yo B q w _ := Fq.of hbB hB
  go_enter Tryd.func15, Tryd.ntmps15
  go_upto_region 1 with fail
  generalize hq : w.heap.size = z at hz6 hz7 hbA hbB
  generalize hW : (w.alloc (.cells (spC x) 36)).alloc (.cells #[.int .i64 hs, .int .u64 hg] 34) = W at hz6 hz7 hbB hrB hH hTB hFB
  simp only [spC] at hW
  simp only [hW]
  clear hW hbA hbB hr hT
  have c0 := (cell_of hz6 0).trans (show _ = some (Value.int .i64 x.d) from rfl)
  have c3 := (cell_of hz6 3).trans (show _ = some (Value.int .i64 x.a) from rfl)
  have c4 := (cell_of hz6 4).trans (show _ = some (Value.int .i64 x.n) from rfl)
  have c5 := (cell_of hz6 5).trans (show _ = some (Value.string x.s) from rfl)
  have y0 := (cell_of hz7 0).trans (show _ = some (Value.int .i64 hs) from rfl)
  have y1 := (cell_of hz7 1).trans (show _ = some (Value.int .u64 (hg : Int)) from rfl)
  by_cases e1 : x.d = 1
  · have b1 : (x.d == 1) = true := by simp [e1]
    replace e1 : Hid _ := e1
    have k1 := ho_any W _ _ _ _ _ _ _ _ _ _ hH hs hg hn
    generalize hoV M hs hg = r1 at k1
    generalize hoE M hs hg = r2 at k1
    go_wp2_with (first
      | (go_at_call 23; go_loud (refine k1.mono ?_; rintro e v1 ⟨rfl, hH1, hF1⟩; have hr1 := hF1.atT hH hrB (by decide); have hy1 := hF1.atT hH hz7 (by decide); have s0 := (cell_of hy1 0).trans (show _ = some (Value.int .i64 hs) from rfl); have s1 := (cell_of hy1 1).trans (show _ = some (Value.int .u64 (hg : Int)) from rfl); have kr := rhold_empty r hs hg v1 ((cell_of hr1 2).trans rfl)))
      | (go_at_call 36; refine kr.mono ?_; rintro e v2 ⟨rfl, hb2⟩))
    all_goals go_returns
    all_goals exact ⟨⟨_, rfl⟩, used, _, hH1.kept hb2, (hFB.trans hF1).trans (Fq.of hb2 hH1.size), fun o ho hne => on_zero hoF ho hne⟩
  have b1 : (x.d == 1) = false := by simp [e1]
  by_cases e2 : x.d = 2
  · have b2 : (x.d == 2) = true := by simp [e2]
    replace e2 : Hid _ := e2
    have k1 := dr_any W _ _ _ _ _ _ _ _ _ _ hH hs hg
    generalize drV M hs hg = r1 at k1
    generalize drE' M hs hg = r2 at k1
    go_wp2_with (first
      | (go_at_call 24; go_loud (refine k1.mono ?_; rintro e v1 ⟨rfl, hH1, hF1⟩; have hr1 := hF1.atT hH hrB (by decide); have hy1 := hF1.atT hH hz7 (by decide); have s0 := (cell_of hy1 0).trans (show _ = some (Value.int .i64 hs) from rfl); have s1 := (cell_of hy1 1).trans (show _ = some (Value.int .u64 (hg : Int)) from rfl); have kr := rdrop_empty r hs hg v1 ((cell_of hr1 2).trans rfl)))
      | (go_at_call 37; refine kr.mono ?_; rintro e v2 ⟨rfl, hb2⟩))
    all_goals go_returns
    all_goals exact ⟨⟨_, rfl⟩, used, _, hH1.kept hb2, (hFB.trans hF1).trans (Fq.of hb2 hH1.size), fun o ho hne => on_zero drF ho hne⟩
  have b2 : (x.d == 2) = false := by simp [e2]
  by_cases e3 : x.d = 3
  · have b3 : (x.d == 3) = true := by simp [e3]
    replace e3 : Hid _ := e3
    have hHd := hH.kept (Below.refl _ W).drew
    have k1 := fr_any W.drew _ _ _ _ _ _ _ _ _ _ hHd (hTB.gr (B := B) h0 (Below.refl _ W).drew) h0 hs hg
    generalize frE M hs hg = r1 at k1
    generalize frU M hs hg used = r2 at k1
    go_upto_region 11 with fail
    go_region_held3 (fun w' => w'.cell? ⟨z + 1, 0, none⟩ = some (.int .i64 hs) ∧ w'.cell? ⟨z + 1, 1, none⟩ = some (.int .u64 hg)) ((refine ⟨?_, ?_⟩ <;> repeat (with_reducible (first | assumption | apply H.cell_dr | apply H.cell_al)))) (first
      | (go_at_call 25; go_loud (refine k1.mono ?_; rintro e v1 ⟨rfl, hH1, hF1⟩; have hr1 := hF1.atT hHd hrB (by decide); have hy1 := hF1.atT hHd hz7 (by decide); have s0 := (cell_of hy1 0).trans (show _ = some (Value.int .i64 hs) from rfl); have s1 := (cell_of hy1 1).trans (show _ = some (Value.int .u64 (hg : Int)) from rfl); have kr := rfree_empty r hs hg v1 ((cell_of hr1 2).trans rfl)))
      | (go_at_call 38; go_loud (refine kr.mono ?_; rintro e v2 ⟨rfl, hb2⟩; have hy2 := (hb2.block _ (heap_lt hy1)).trans hy1; have s2 := (cell_of hy2 0).trans (show _ = some (Value.int .i64 hs) from rfl); have s3 := (cell_of hy2 1).trans (show _ = some (Value.int .u64 (hg : Int)) from rfl))))
    all_goals go_wp2
    all_goals go_returns
    all_goals exact ⟨⟨_, rfl⟩, _, _, hH1.kept hb2, (hFB.drew.trans hF1).trans (Fq.of hb2 hH1.size), fun o ho hne => on_zero frF ho hne⟩
  have b3 : (x.d == 3) = false := by simp [e3]
  by_cases e4 : x.d = 4
  · have b4 : (x.d == 4) = true := by simp [e4]
    replace e4 : Hid _ := e4
    have k1 := hread_any W _ _ _ _ _ _ _ _ _ _ hH hs hg x.a x.n hx.a hx.n
    generalize rdS M hs hg x.a x.n = r1 at k1
    generalize rdE M hs hg x.a x.n = r2 at k1
    go_wp2_with (first
      | (go_at_call 26; go_loud (refine k1.mono ?_; rintro e v1 ⟨rfl, hb1⟩; have hr1 := (hb1.block _ (heap_lt hrB)).trans hrB; have hy1 := (hb1.block _ (heap_lt hz7)).trans hz7; have hx1 := (hb1.block _ (heap_lt hz6)).trans hz6; have s0 := (cell_of hy1 0).trans (show _ = some (Value.int .i64 hs) from rfl); have s1 := (cell_of hy1 1).trans (show _ = some (Value.int .u64 (hg : Int)) from rfl); have s3 := (cell_of hx1 3).trans (show _ = some (Value.int .i64 x.a) from rfl); have s4 := (cell_of hx1 4).trans (show _ = some (Value.int .i64 x.n) from rfl); have kr := rread_empty r hs hg x.a x.n v1 ((cell_of hr1 2).trans rfl)))
      | (go_at_call 39; refine kr.mono ?_; rintro e v2 ⟨rfl, hb2⟩))
    all_goals go_returns
    all_goals exact ⟨⟨_, rfl⟩, used, M, (hH.kept hb1).kept hb2, (hFB.trans (Fq.of hb1 hH.size)).trans (Fq.of hb2 (hH.kept hb1).size), fun o ho _ => ho⟩
  have b4 : (x.d == 4) = false := by simp [e4]
  by_cases e5 : x.d = 5
  · have b5 : (x.d == 5) = true := by simp [e5]
    replace e5 : Hid _ := e5
    have hHd := hH.kept (Below.refl _ W).drew
    have k1 := wt_any W.drew _ _ _ _ _ _ _ _ _ _ hHd hs hg x.a x.s hx.a hx.s
    generalize wtE M hs hg x.a x.s = r1 at k1
    go_upto_region 17 with fail
    go_region_held3 (fun w' => w'.cell? ⟨z + 1, 0, none⟩ = some (.int .i64 hs) ∧ w'.cell? ⟨z + 1, 1, none⟩ = some (.int .u64 hg) ∧ w'.cell? ⟨z, 3, none⟩ = some (.int .i64 x.a) ∧ w'.cell? ⟨z, 5, none⟩ = some (.string x.s)) ((refine ⟨?_, ?_, ?_, ?_⟩ <;> repeat (with_reducible (first | assumption | apply H.cell_dr | apply H.cell_al)))) (first
      | (go_at_call 27; go_loud (refine k1.mono ?_; rintro e v1 ⟨rfl, hH1, hF1⟩; have hr1 := hF1.atT hHd hrB (by decide); have hy1 := hF1.atT hHd hz7 (by decide); have hx1 := hF1.atT hHd hz6 (by decide); have s0 := (cell_of hy1 0).trans (show _ = some (Value.int .i64 hs) from rfl); have s1 := (cell_of hy1 1).trans (show _ = some (Value.int .u64 (hg : Int)) from rfl); have s3 := (cell_of hx1 3).trans (show _ = some (Value.int .i64 x.a) from rfl); have s5 := (cell_of hx1 5).trans (show _ = some (Value.string x.s) from rfl); have kr := rwrite_empty r hs hg x.a x.s v1 ((cell_of hr1 2).trans rfl)))
      | (go_at_call 40; go_loud (refine kr.mono ?_; rintro e v2 ⟨rfl, hb2⟩; have hy2 := (hb2.block _ (heap_lt hy1)).trans hy1; have hx2 := (hb2.block _ (heap_lt hx1)).trans hx1; have s6 := (cell_of hy2 0).trans (show _ = some (Value.int .i64 hs) from rfl); have s7 := (cell_of hy2 1).trans (show _ = some (Value.int .u64 (hg : Int)) from rfl); have s8 := (cell_of hx2 3).trans (show _ = some (Value.int .i64 x.a) from rfl); have s9 := (cell_of hx2 5).trans (show _ = some (Value.string x.s) from rfl))))
    all_goals go_wp2
    all_goals go_returns
    all_goals exact ⟨⟨_, rfl⟩, used, _, hH1.kept hb2, (hFB.drew.trans hF1).trans (Fq.of hb2 hH1.size), fun o ho hne => on_zero (wtF x.a x.s) ho hne⟩
  have b5 : (x.d == 5) = false := by simp [e5]
  go_wp2
  all_goals go_returns
  all_goals exact ⟨⟨_, rfl⟩, used, M, hH, hFB, fun o ho _ => ho⟩
end Go.Proofs.YtooblonafnlfcaaDoor
