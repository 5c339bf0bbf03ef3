/- Towards the statements of package code (layer 8): a row that grows beside memory that is read; heads: where subprograms begin. -/
import Derived.Test.YtdmdmbcapjmnlabCJ
import Derived.Maps.OwnIn
namespace Go.Proofs.Ytdmdmbcapjmnlab
open Go.ChangeShapes Go.WideShapes Go.ChangeAt
open Go.RowKit Go.Shelf
set_option linter.unusedVariables false
set_option linter.unusedSimpArgs false
set_option maxRecDepth 20000
attribute [local go_sem] Oper.semAt_some

theorem ownFrom_keep {β : Type} {S : Nat → Prop} {W0 : World} {N : Nat} (hS : ∀ b, S b → b < N) (h0 : ∀ b, S b → b < W0.heap.size) : OwnFrom N (fun (_ : β) W => Keep S W0 W ∧ W0.heap.size ≤ W.heap.size) := fun s A B row hs hg hr =>
  ⟨fun b hb => (hg.block b (Nat.lt_of_lt_of_le (h0 b hb) hs.2) (fun e => by have := (hr b e.symm).1; have := hS b hb; omega)).trans (hs.1 b hb), Nat.le_trans hs.2 hg.size⟩
theorem ownsRow_gr {W W' : World} {n₀ : Nat} {e : TypeId} {z : Nat} {v : Value} {k : Nat} {xs : List Value} (h : W.ownsRow n₀ e z v k xs) (hb : Below W.heap.size W W') : W'.ownsRow n₀ e z v k xs :=
  h.kept (grows hb) (by by_cases h : v.ownBlock = none; exact .inl h; exact .inr h)
/-- One number more behind a row of the call's own, in a box; what S names stays. -/
theorem append_step {W w1 : World} {n₀ B : Nat} {S : Nat → Prop} {v v' : Value} {k m : Nat} {xs ys : List Value} {tmp : Obj} (hv : Boxed W B 34 v) (hrow : W.ownsRow n₀ 3 1 v k xs) (hn₀ : n₀ ≤ W.heap.size) (hB : n₀ ≤ B) (hS : ∀ b, S b → b < W.heap.size) (hSB : ¬ S B) (hno : ∀ g, v.ownBlock = some g → ¬ S g)
    (hown' : w1.ownsRow n₀ 3 1 v' m ys) (hgrow : (W.alloc tmp).grownBy w1 v.ownBlock) (hat : v'.ownBlock = v.ownBlock ∨ v'.ownBlock = some (W.alloc tmp).heap.size) :
    Boxed w1 B 34 v ∧ Boxed (w1.setCell ⟨B, 0, none⟩ v') B 34 v' ∧ (w1.setCell ⟨B, 0, none⟩ v').ownsRow n₀ 3 1 v' m ys ∧ KeepsOthers W (w1.setCell ⟨B, 0, none⟩ v') ∧ Below n₀ W (w1.setCell ⟨B, 0, none⟩ v') ∧ Keep S W (w1.setCell ⟨B, 0, none⟩ v') ∧ (∀ g, v'.ownBlock = some g → ¬ S g) ∧ W.heap.size ≤ (w1.setCell ⟨B, 0, none⟩ v').heap.size := by
  obtain ⟨a1, a2, a3, a4, a5⟩ := hv.appended (by decide) hrow hn₀ hB hown' hgrow
  refine ⟨a1, a2, a3, a4, a5, fun b hb => ?_, fun g hg => ?_, a5.size⟩
  · have hlt := hS b hb
    have e1 := hgrow.block b (by simp; omega) (fun e => hno b e.symm hb)
    exact (Below.heap_setCell w1 ⟨B, 0, none⟩ v' b (fun e => hSB (by have e' : b = B := e; rw [← e']; exact hb))).trans (e1.trans (Below.heap_alloc W tmp b hlt))
  · rcases hat with h | h
    · exact hno g (h ▸ hg)
    · rw [h] at hg; cases hg
      intro hs; have := hS _ hs; simp at this; omega
/-- Where subprograms begin: at 0, and wherever an instruction names one. -/
def namedL (L : List Sl) (xs : List Int) : List Int := 0 :: xs.filterMap (calleeM L)
def headsM (L : List Sl) (Bg : List Bool) : List Int := Lib.compact ((namedL L (begL Bg 0 L.length)).mergeSort fun x y => decide (x ≤ y))
theorem namedL_snoc (L : List Sl) (pre : List Int) (x : Int) : namedL L (pre ++ [x]) = namedL L pre ++ (match calleeM L x with | some t => [t] | none => []) := by
  unfold namedL; rw [List.filterMap_append]; cases h : calleeM L x <;> simp [h]
theorem namedL_len (L : List Sl) (xs : List Int) : (namedL L xs).length ≤ xs.length + 1 := by
  unfold namedL; simp; exact List.length_filterMap_le _ _
set_option maxRecDepth 100000 in
set_option maxHeartbeats 4000000 in
theorem heads_in (n : Nat) (hn : 3 ≤ n) (P bb : Nat) (sv vb vs vh : Value) (L : List Sl) (Bg : List Bool) (hLB : Bg.length = L.length)
    (w : World) (hR : Rec w P sv vb vs vh) (hL : Slots AnyB w sv L) (hB : Bools w bb vb Bg) :
    CallsIn Fence.wide n Try.prog 51 #[.pointer (some ⟨P, 0, none⟩)] w fun e w' => ∃ v, e = .returned v ∧ Own w w' v (headsM L Bg) := by
  have h1 : 1 ≤ n := by omega
  obtain ⟨p, c, rfl⟩ := hL.shape
  have hlen := hL.len
  obtain ⟨i0, hi, hz0, hz1, hz2⟩ := info_parts info3
  refine callsIn_of_wp_marks Try.func51 rfl trivial ?_ rfl
  simp only [Try.ntmps51, List.size_toArray, List.length_cons, List.length_nil, Nat.reduceAdd, Nat.reduceSub, Array.replicate_succ, Array.replicate_zero, List.push_toArray, List.append_toArray, List.nil_append, List.cons_append]
  gi_wp2
  have hb3 : Below w.heap.size w (((w.alloc (.cells #[.pointer (some ⟨P, 0, none⟩)] 42)).alloc (.cells #[.int .i64 0] 3)).alloc (.cells #[.slice (some ⟨w.heap.size + 1, 0, none⟩) 1 1] 34)) := (((Below.refl _ w).alloc (Nat.le_refl _) _).alloc (by simp) _).alloc (by simp <;> omega) _
  have hs3 : (((w.alloc (.cells #[.pointer (some ⟨P, 0, none⟩)] 42)).alloc (.cells #[.int .i64 0] 3)).alloc (.cells #[.slice (some ⟨w.heap.size + 1, 0, none⟩) 1 1] 34)).heap.size = w.heap.size + 3 := by simp
  have q0 : (((w.alloc (.cells #[.pointer (some ⟨P, 0, none⟩)] 42)).alloc (.cells #[.int .i64 0] 3)).alloc (.cells #[.slice (some ⟨w.heap.size + 1, 0, none⟩) 1 1] 34)).heap[w.heap.size]? = some (.cells #[.pointer (some ⟨P, 0, none⟩)] 42) :=
    ((Below.heap_alloc _ _ _ (by simp <;> omega)).trans (Below.heap_alloc _ _ _ (by simp))).trans (World.alloc_heap_new w _)
  have q1 : (((w.alloc (.cells #[.pointer (some ⟨P, 0, none⟩)] 42)).alloc (.cells #[.int .i64 0] 3)).alloc (.cells #[.slice (some ⟨w.heap.size + 1, 0, none⟩) 1 1] 34)).heap[w.heap.size + 1]? = some (.cells #[.int .i64 0] 3) := by
    refine (Below.heap_alloc _ _ _ (by simp)).trans ?_
    have := World.alloc_heap_new (w.alloc (.cells #[.pointer (some ⟨P, 0, none⟩)] 42)) (.cells #[.int .i64 0] 3); rwa [World.size_alloc] at this
  have q2 : (((w.alloc (.cells #[.pointer (some ⟨P, 0, none⟩)] 42)).alloc (.cells #[.int .i64 0] 3)).alloc (.cells #[.slice (some ⟨w.heap.size + 1, 0, none⟩) 1 1] 34)).heap[w.heap.size + 1 + 1]? = some (.cells #[.slice (some ⟨w.heap.size + 1, 0, none⟩) 1 1] 34) := by
    have := World.alloc_heap_new ((w.alloc (.cells #[.pointer (some ⟨P, 0, none⟩)] 42)).alloc (.cells #[.int .i64 0] 3)) (.cells #[.slice (some ⟨w.heap.size + 1, 0, none⟩) 1 1] 34); rwa [World.size_alloc, World.size_alloc] at this
  have hR3 := hR.gr hb3
  have hL3 := hL.gr hb3
  have hB3 := hB.gr hb3
  generalize (((w.alloc (.cells #[.pointer (some ⟨P, 0, none⟩)] 42)).alloc (.cells #[.int .i64 0] 3)).alloc (.cells #[.slice (some ⟨w.heap.size + 1, 0, none⟩) 1 1] 34)) = w3 at hb3 hs3 q0 q1 q2 hR3 hL3 hB3 ⊢
  obtain ⟨r0, r1, r2, r3⟩ := hR3.cells
  have cp := cellOf q0 (show #[Value.pointer (some ⟨P, 0, none⟩)][0]? = some (Value.pointer (some ⟨P, 0, none⟩)) from rfl)
  refine wpIn_wide.2 ?_
  go_region_held3 (fun w' => w'.cell? ⟨w.heap.size, 0, none⟩ = some (.pointer (some ⟨P, 0, none⟩)) ∧ w'.cell? ⟨P, 0, none⟩ = some (.slice p L.length c)) ((refine ⟨?_, ?_⟩ <;> repeat (with_reducible (first | assumption | apply cell_al | apply cell_dr)))) (first | (go_at_call 49; refine (begin_any _ _ _ _).mono ?_; rintro e w' ⟨rfl, hw⟩; subst hw))
  have hit0 := begin_iter (fun x : Int => x) (begL Bg 0 L.length) P bb _ vb vs vh Bg (by omega) 0 L.length (Nat.zero_le _) (by omega) w3 hR3 hB3.lt hB3 (by simp)
  rw [hs3, show ((0 : Nat) : Int) = 0 from rfl] at hit0
  have hbd : Below ((w3.alloc (.cells #[.pointer (some ⟨P, 0, none⟩)] 42)).alloc (.cells #[.int .i64 0, .int .i64 L.length] 37)).heap.size ((w3.alloc (.cells #[.pointer (some ⟨P, 0, none⟩)] 42)).alloc (.cells #[.int .i64 0, .int .i64 L.length] 37)) (((w3.alloc (.cells #[.pointer (some ⟨P, 0, none⟩)] 42)).alloc (.cells #[.int .i64 0, .int .i64 L.length] 37)).drew) := (Below.refl _ _).drew
  have hit := hit0.gr hbd
  have hbW : Below w3.heap.size w3 (((w3.alloc (.cells #[.pointer (some ⟨P, 0, none⟩)] 42)).alloc (.cells #[.int .i64 0, .int .i64 L.length] 37)).drew) := (((Below.refl _ w3).alloc (Nat.le_refl _) _).alloc (by simp) _).drew
  have hs0 : (((w3.alloc (.cells #[.pointer (some ⟨P, 0, none⟩)] 42)).alloc (.cells #[.int .i64 0, .int .i64 L.length] 37)).drew).heap.size = w.heap.size + 5 := by show ((w3.alloc _).alloc _).heap.size = _; simp [hs3]
  generalize (((w3.alloc (.cells #[.pointer (some ⟨P, 0, none⟩)] 42)).alloc (.cells #[.int .i64 0, .int .i64 L.length] 37)).drew) = W0 at hit hbW hs0 ⊢
  have p0 := (hbW.block _ (by omega)).trans q0
  have p1 := (hbW.block _ (by omega)).trans q1
  have p2 : Boxed W0 (w.heap.size + 1 + 1) 34 (.slice (some ⟨w.heap.size + 1, 0, none⟩) 1 1) := (hbW.block _ (by omega)).trans q2
  have hb0 : Below w.heap.size w W0 := hb3.trans (hbW.mono (by omega))
  have hPw := hR.lt
  have hbw := hB.lt
  clear hit0 hbd hbW q0 q1 q2 hR3 hL3 hB3 r0 r1 r2 r3 cp hb3 hs3
  gi_wp2
  obtain ⟨S, hSd⟩ : ∃ S : Nat → Prop, S = fun b => b = w.heap.size ∨ BegS (w.heap.size + 3) P bb b := ⟨_, rfl⟩
  have hSlt : ∀ b, S b → b < W0.heap.size := fun b hb => by rw [hSd] at hb; unfold BegS at hb; (try dsimp only at hb); omega
  have hSB : ¬ S (w.heap.size + 1 + 1) := by rw [hSd]; unfold BegS; (try dsimp only); omega
  have hS1 : ¬ S (w.heap.size + 1) := by rw [hSd]; unfold BegS; (try dsimp only); omega
  have hSk : ∀ b, BegS (w.heap.size + 3) P bb b → S b := fun b hb => by rw [hSd]; exact .inr hb
  have hSp : S w.heap.size := by rw [hSd]; exact .inl rfl
  refine wpIn_rangeFunc_ownG rfl h1 (gf := 67) rfl trivial hit.enters
    (hit.stops (n - 1) (by omega)) hit.trans (fun W l o o' hl ho h2 h3 => hit.keeps _ _ (belowK_b (w := W0) (Nat.le_refl _) W l o o' hl ho h2 h3)) (Below.refl _ _) (fun _ => rfl)
    (fun pre W => (∃ v, Boxed W (w.heap.size + 1 + 1) 34 v ∧ W.ownsRow w.heap.size 3 1 v (namedL L pre).length ((namedL L pre).map (Value.int .i64)) ∧ (∀ g, v.ownBlock = some g → ¬ S g)) ∧ (Below w.heap.size w W ∧ (Keep S W0 W ∧ W0.heap.size ≤ W.heap.size)))
    (fun _ _ _ => False)
    (OwnFrom.and (Own.from (holdsRow_own w.heap.size (w.heap.size + 1 + 1) 34 3 1 (fun pre : List Int => (namedL L pre).length) (fun pre => (namedL L pre).map (Value.int .i64)) (fun pre v => ∀ g, v.ownBlock = some g → ¬ S g)) _) (OwnFrom.and (ownFrom_below (Nat.le_refl _) (by omega)) (ownFrom_keep hSlt hSlt)))
    (fun _ _ _ _ _ hs _ _ => hs)
    ⟨⟨_, p2, ⟨by simp [namedL], .inr ⟨w.heap.size + 1, 1, #[.int .i64 0], by simp [namedL], by omega, p1, by simp [namedL], by simp [maxLen], by simp, by simp [namedL]⟩⟩, fun g hg => by simp [Value.ownBlock] at hg; rw [← hg]; exact hS1⟩, hb0, Keep.refl _ _, Nat.le_refl _⟩
    (fun x => { tmps := #[.pointer (some ⟨P, 0, none⟩), .pointer (some ⟨w.heap.size, 0, none⟩), .slice none 0 0, .pointer (some ⟨w.heap.size + 1 + 1, 0, none⟩), .int .i64 x, undef, undef, .slice (some ⟨w.heap.size + 1, 0, none⟩) 1 1, .pointer (some ⟨P, 0, none⟩), .pointer (some ⟨P, 0, none⟩), .pointer (some ⟨P, 0, none⟩), .pointer (some ⟨P, 0, none⟩), .slice p L.length c, .int .i64 L.length, .agg #[.int .i64 0, .int .i64 L.length], .func (.func 67) #[] #[.pointer (some ⟨w.heap.size + 3 + 1, 0, none⟩), .pointer (some ⟨w.heap.size + 3, 0, none⟩)], .int .i64 x, undef, undef, undef, undef, undef, undef, undef, undef, undef, undef, undef, undef, undef, undef, undef, undef, undef, undef], defers := [] }) ?assign ?body ?done ?stop
  case assign =>
    intro l x W K hK
    gi_wp2
    exact hK
  case body =>
    rintro l pre x W ⟨⟨v, hv, hrow, hno⟩, hbW, hKe, hsz⟩ hlt
    have h1' : 1 ≤ n - 1 - 1 := by omega
    have hnl := namedL_len L pre
    have hRW := hR.gr hbW
    have hLW := hL.gr hbW
    have cpW := cellOf ((hKe _ hSp).trans p0) (show #[Value.pointer (some ⟨P, 0, none⟩)][0]? = some (Value.pointer (some ⟨P, 0, none⟩)) from rfl)
    obtain ⟨r0, r1, r2, r3⟩ := hRW.cells
    have k1 := callee_any AnyB _ L x W hLW
    cases hc : calleeM L x with
    | none =>
      rw [calleeV, hc] at k1
      gi_wp2_with (refine ⟨trivial, ?_⟩; gi_at_call 7; refine (CallsIn.inRound l (callsIn_wide.2 k1)).mono ?_; rintro e w' ⟨rfl, hg⟩)
      exact ⟨keeps_below hg.below, hit.keeps _ _ (hg.below.mono hsz), ⟨v, hv.kept (grows hg.below) (by simp), by rw [namedL_snoc, hc]; simpa using ownsRow_gr hrow hg.below, hno⟩, hbW.trans (hg.below.mono hbW.size), hKe.trans (.of hg.below fun b hb => Nat.lt_of_lt_of_le (hSlt b hb) hsz), Nat.le_trans hsz hg.below.size⟩
    | some t =>
      rw [calleeV, hc] at k1
      gi_wp2_with first | (refine ⟨trivial, ?_⟩; gi_at_call 7; refine (CallsIn.inRound l (callsIn_wide.2 k1)).mono ?_; rintro e W1 ⟨rfl, hg⟩; have hKF := keeps_below (B := W0.heap.size) hg.below; have hKe1 : Keep S W W1 := .of hg.below fun b hb => Nat.lt_of_lt_of_le (hSlt b hb) hsz; replace hv := hv.kept (grows hg.below) (by simp); replace hrow := ownsRow_gr hrow hg.below; replace hbW := hbW.trans (hg.below.mono hbW.size); replace hsz := Nat.le_trans hsz hg.below.size; clear hg; have cv := hv.cell) | (gi_at_builtin; refine wpListIn_append_own_at _ rfl _ _ 34 rfl w.heap.size 3 i0 (.int .i64 0) 1 8 Try.underlying34 hi hz0 hz1 hz2 rfl (by decide) _ _ _ rfl (hrow.alloc _) ⟨W1.heap.size, 0, none⟩ 1 1 [.int .i64 t] rfl rfl (cell_one_new _ _ _) (by simp [Value.oneCell']) (by simp [maxLen]; omega) (by omega) (by have := hbW.size; simp; omega) ?_; intro v' w2 hown' hgrow _ hat; obtain ⟨g', cap', rfl⟩ := ownsRow_succ hown'; obtain ⟨a1, a2, a3, a4, a5, a6, a7, a8⟩ := append_step (S := S) hv hrow hbW.size (by omega) (fun b hb => Nat.lt_of_lt_of_le (hSlt b hb) hsz) hSB hno hown' hgrow hat; have hc1 := a1.cell; have hf1 := a1.frozen)
      exact ⟨hKF.trans (a4.from _), fun b hb => ((hKe1.trans a6) b (hSk b hb)), ⟨_, a2, by rw [namedL_snoc, hc]; simpa using a3, a7⟩, hbW.trans a5, hKe.trans (hKe1.trans a6), Nat.le_trans hsz a8⟩
  case done =>
    rintro D ys W hD rfl ⟨⟨v, hv, hrow, hno⟩, hbW, hKe, hsz⟩ hKW
    have hnl := namedL_len L (begL Bg 0 L.length)
    have hbl := begL_len Bg 0 L.length
    have cv := hv.cell
    have hltD : D < W.heap.size := (Array.getElem?_eq_some_iff.1 hKW).1
    have hDw : w.heap.size ≤ D := by omega
    have hne : some D ≠ v.ownBlock := by
      rcases hrow.2 with ⟨rfl, _⟩ | ⟨g, cap, cur, rfl, _, hg, _⟩
      · simp [Value.ownBlock]
      · intro e
        simp [Value.ownBlock] at e
        rw [e] at hKW; rw [hg] at hKW; cases hKW
    have hnb := hv.not_row (by decide) hrow
    gi_wp2_with first | (refine ⟨trivial, ?_⟩; gi_at_call 42; refine (callsIn_wide.2 (sort_own w.heap.size v _ (by omega) _ hrow)).mono ?_; rintro e W1 ⟨rfl, hrow1, hb1, hg1⟩; replace hKW := (hg1.block D hltD hne).trans hKW; replace hltD := Nat.lt_of_lt_of_le hltD hg1.size; replace hv := hv.kept hg1 hnb; replace cv := hv.cell; replace hbW := hbW.trans hb1) | (refine ⟨trivial, ?_⟩; gi_at_call 16; rw [← ms_len] at hrow1; refine (callsIn_wide.2 (compact_own w.heap.size v _ (by rw [ms_len]; omega) _ hrow1)).mono ?_; rintro e W2 ⟨v2, rfl, hrow2, hb2, hg2⟩; replace hKW := (hg2.block D hltD hne).trans hKW; replace hbW := hbW.trans hb2)
    refine ⟨by simp, .inl ⟨_, _, rfl, run_takeDeferred hKW, ?_⟩⟩
    exact ⟨_, results_tmp rfl _ _ _, v2, rfl, ownsRow_putObj hrow2 _ hKW rfl, hbW.trans (belowK_b (w := w) (Nat.le_refl _) _ D _ _ hDw hKW rfl rfl)⟩
  case stop =>
    rintro D c pre W _ _ h _
    exact h.elim
end Go.Proofs.Ytdmdmbcapjmnlab
