/- Towards the statements of package handle (layer 13): New, Make, Drop. -/
import Derived.Test.YtooblonafnlfcaaDoorHA
namespace Go.Proofs.YtooblonafnlfcaaDoor.H
open Go.ChangeShapes Go.WideShapes Go.ChangeAt Go.RowKit
set_option linter.unusedVariables false
set_option linter.unusedSimpArgs false
set_option maxRecDepth 20000
/-- What a call of a table leaves: all below B, and all beside its two maps. -/
structure Fh (B m1 m2 : Nat) (w w' : World) : Prop where
  bel : Below B w w'
  keep : ∀ k, k < w.heap.size → k ≠ m1 → k ≠ m2 → w'.heap[k]? = w.heap[k]?
theorem Fh.of {B m1 m2 : Nat} {w w' : World} (h : Below w.heap.size w w') (hB : B ≤ w.heap.size) : Fh B m1 m2 w w' := ⟨h.mono hB, fun k hk _ _ => h.block k hk⟩
theorem Fh.trans {B m1 m2 : Nat} {w w' w'' : World} (h : Fh B m1 m2 w w') (k : Fh B m1 m2 w' w'') : Fh B m1 m2 w w'' :=
  ⟨h.bel.trans k.bel, fun i hi h1 h2 => (k.keep i (Nat.lt_of_lt_of_le hi h.bel.size) h1 h2).trans (h.keep i hi h1 h2)⟩
theorem Fh.alloc {B m1 m2 : Nat} {w w' : World} (h : Fh B m1 m2 w w') (hB : B ≤ w.heap.size) (o : Obj) : Fh B m1 m2 w (w'.alloc o) :=
  h.trans (Fh.of ((Below.refl _ w').alloc (Nat.le_refl _) _) (Nat.le_trans hB h.bel.size))
theorem Fh.drew {B m1 m2 : Nat} {w w' : World} (h : Fh B m1 m2 w w') : Fh B m1 m2 w w'.drew := ⟨h.bel.drew, h.keep⟩
theorem Fh.set {B m1 m2 : Nat} {w w' : World} (h : Fh B m1 m2 w w') {p : Addr} (hp : w.heap.size ≤ p.block) (hB : B ≤ w.heap.size) (u : Value) : Fh B m1 m2 w (w'.setCell p u) :=
  ⟨h.bel.setCell (Nat.le_trans hB hp) u, fun k hk h1 h2 => (Below.heap_setCell _ _ _ _ (by omega)).trans (h.keep k hk h1 h2)⟩
theorem Fh.turn {B m1 m2 m : Nat} {w w' : World} (h : w.mapTurned w' m) (hm : m = m1 ∨ m = m2) (hB : B ≤ m) (hs : B ≤ w.heap.size) : Fh B m1 m2 w w' :=
  ⟨(Below.refl B w).grown h.grown hs (fun k e => by cases e; exact hB), fun k hk h1 h2 => h.grown.block k hk (by rcases hm with rfl | rfl <;> simp <;> omega)⟩
theorem turn_size {w w' : World} {m : Nat} (h : w.mapTurned w' m) : w'.heap.size = w.heap.size := by
  obtain ⟨es, c, es', c', hb, rfl⟩ := h
  exact Array.size_setIfInBounds
theorem Tb.size {w : World} {B b m1 m2 : Nat} {N : Int → Nat} {L : Int → Option Nat} {n : Nat} (h : Tb w B b m1 m2 N L n) : B ≤ w.heap.size := Nat.le_trans h.bB (Nat.le_of_lt (heap_lt h.cells))
theorem Tb.nm {w : World} {B b m1 m2 : Nat} {N : Int → Nat} {L : Int → Option Nat} {n : Nat} (h : Tb w B b m1 m2 N L n) : b ≠ m1 ∧ b ≠ m2 ∧ m1 < w.heap.size ∧ m2 < w.heap.size := by
  have hc := h.cells
  obtain ⟨F, hF, _⟩ := h.im1
  have l1 := hF.lt
  have l2 := h.im2.lt
  obtain ⟨es, c, h1, _⟩ := hF
  obtain ⟨es2, c2, h2, _⟩ := h.im2
  refine ⟨?_, ?_, l1, l2⟩
  · rintro rfl; rw [hc] at h1; cases h1
  · rintro rfl; rw [hc] at h2; cases h2
/-- A table stays as it is under calls of another one. -/
theorem Tb.other {w w' : World} {B b m1 m2 : Nat} {N : Int → Nat} {L : Int → Option Nat} {n : Nat} (h : Tb w B b m1 m2 N L n) {B' k1 k2 : Nat} (hF : Fh B' k1 k2 w w') (h1 : b ≠ k1 ∧ b ≠ k2) (h2 : m1 ≠ k1 ∧ m1 ≠ k2) (h3 : m2 ≠ k1 ∧ m2 ≠ k2) : Tb w' B b m1 m2 N L n := by
  obtain ⟨F, hF1, hF2⟩ := h.im1
  exact ⟨(hF.keep _ (heap_lt h.cells) h1.1 h1.2).trans h.cells, h.bB, h.b1, h.b2, h.ne, h.nb, ⟨F, hF1.keep (hF.keep _ hF1.lt h2.1 h2.2), hF2⟩, h.im2.keep (hF.keep _ h.im2.lt h3.1 h3.2), h.bd, h.gen⟩
theorem put2 {W : World} {z : Nat} {a b : Value} {t : TypeId} (h : W.heap[z]? = some (.cells #[a, b] t (0, 0))) (c d : Value) :
    (W.setCell ⟨z, 0, none⟩ c).cell? ⟨z, 0, none⟩ = some c ∧ (W.setCell ⟨z, 0, none⟩ c).cell? ⟨z, 1, none⟩ = some b ∧ ((W.setCell ⟨z, 0, none⟩ c).setCell ⟨z, 1, none⟩ d).cell? ⟨z, 0, none⟩ = some c ∧ ((W.setCell ⟨z, 0, none⟩ c).setCell ⟨z, 1, none⟩ d).cell? ⟨z, 1, none⟩ = some d := by
  have h1 := heap_setCell_same W z 0 _ _ c h
  have h2 := heap_setCell_same _ z 1 _ _ d h1
  exact ⟨by rw [cell_of h1]; rfl, by rw [cell_of h1]; rfl, by rw [cell_of h2]; rfl, by rw [cell_of h2]; rfl⟩
def updN (N : Int → Nat) (k : Int) (x : Nat) : Int → Nat := fun s => if s = k then x else N s
def updL (L : Int → Option Nat) (k : Int) (x : Option Nat) : Int → Option Nat := fun s => if s = k then x else L s
theorem new_any (w : World) : Calls Tryd.prog 30 #[] w fun e w' => e = .returned (.pointer (some ⟨w.heap.size + 2, 0, none⟩)) ∧ Tb w' w.heap.size (w.heap.size + 2) w.heap.size (w.heap.size + 1) (fun _ => 0) (fun _ => none) 0 ∧ Below w.heap.size w w' := by
  have hmm := @run_makeMap Tryd.prog
  go_enter Tryd.func30, Tryd.ntmps30
  go_wp2
  all_goals go_returns
  all_goals refine ⟨rfl, ⟨?_, by omega, by omega, by omega, by omega, by omega, ⟨fun _ => none, ((IM.new w).alloc _).alloc _, fun _ => rfl⟩, (show IM _ (w.heap.size + 1) 0 (fun _ => none) by simpa using (IM.new (w.alloc (.map #[] 0))).alloc _), fun _ => Nat.le_refl _, fun _ _ e => by cases e⟩, (((Below.refl _ w).alloc (Nat.le_refl _) _).alloc (by simp) _).alloc (by simp <;> omega) _⟩
  all_goals simpa using heap_alloc_new ((w.alloc (.map #[] 0)).alloc (.map #[] 0)) _
theorem make_nil (s : Int) (w : World) : Calls Tryd.prog 33 #[.pointer none, .int .i64 s] w fun e w' => e = .returned (.tuple #[hdV 0 0, .int .i64 1]) ∧ Below w.heap.size w w' := by
  have k1 := fun W => made_nil W
  go_enter Tryd.func33, Tryd.ntmps33
  go_wp2_with (go_at_call 58; refine (k1 _).mono ?_; rintro e w' ⟨rfl, hw⟩; rw [hw]; clear hw)
  all_goals go_returns
  all_goals exact ⟨rfl, (Below.refl _ w).alloc (Nat.le_refl _) _⟩
theorem drop_nil (s g : Int) (w : World) : Calls Tryd.prog 50 #[.pointer none, .agg #[.int .i64 s, .int .u64 g]] w fun e w' => e = .returned (.int .i64 1) ∧ Below w.heap.size w w' := by
  have k1 := fun W => made_nil W
  go_enter Tryd.func50, Tryd.ntmps50
  go_wp2_with (go_at_call 58; refine (k1 _).mono ?_; rintro e w' ⟨rfl, hw⟩; rw [hw]; clear hw)
  all_goals go_returns
  all_goals exact ⟨rfl, (Below.refl _ w).alloc (Nat.le_refl _) _⟩
theorem all_nil (w : World) : Calls Tryd.prog 45 #[.pointer none] w fun e w' => e = .returned (.slice none 0 0) ∧ w' = w := by
  have k1 := fun W => made_nil W
  go_enter Tryd.func45, Tryd.ntmps45
  go_wp2_with (go_at_call 58; refine (k1 _).mono ?_; rintro e w' ⟨rfl, hw⟩; rw [hw]; clear hw)
  all_goals go_returns
  all_goals exact ⟨rfl, rfl⟩
theorem make_arg (w : World) (B b m1 m2 : Nat) (N : Int → Nat) (L : Int → Option Nat) (n : Nat) (h : Tb w B b m1 m2 N L n) (s : Int) (hs : s < 0) :
    Calls Tryd.prog 33 #[.pointer (some ⟨b, 0, none⟩), .int .i64 s] w fun e w' => e = .returned (.tuple #[hdV 0 0, .int .i64 2]) ∧ Below w.heap.size w w' := by
  have hc := h.cells
  have c1 : w.cell? ⟨b, 1, none⟩ = some (.map (some m2)) := by rw [cell_of hc]; rfl
  have k1 := made_yes (w.alloc (.cells #[.int .i64 0, .int .u64 0] 34)) b m2 (cell_al c1 _)
  go_enter Tryd.func33, Tryd.ntmps33
  go_wp2_with (go_at_call 58; refine k1.mono ?_; rintro e w' ⟨rfl, hw⟩; rw [hw]; clear hw)
  all_goals go_returns
  all_goals exact ⟨rfl, (Below.refl _ w).alloc (Nat.le_refl _) _⟩
theorem make_there (w : World) (B b m1 m2 : Nat) (N : Int → Nat) (L : Int → Option Nat) (n : Nat) (h : Tb w B b m1 m2 N L n) (s : Int) (hs : 0 ≤ s) (g : Nat) (hL : L s = some g) :
    Calls Tryd.prog 33 #[.pointer (some ⟨b, 0, none⟩), .int .i64 s] w fun e w' => e = .returned (.tuple #[hdV 0 0, .int .i64 7]) ∧ Below w.heap.size w w' := by
  have hc := h.cells
  have c1 : w.cell? ⟨b, 1, none⟩ = some (.map (some m2)) := by rw [cell_of hc]; rfl
  have k1 := made_yes (w.alloc (.cells #[.int .i64 0, .int .u64 0] 34)) b m2 (cell_al c1 _)
  have k2 := of_any (w.alloc (.cells #[.int .i64 0, .int .u64 0] 34)) B b m1 m2 N L n (h.below ((Below.refl _ w).alloc (Nat.le_refl _) _)) s
  unfold ofM at k2
  simp only [hL] at k2
  go_enter Tryd.func33, Tryd.ntmps33
  go_upto_region 6 with (first | (go_at_call 58; refine k1.mono ?_; rintro e w' ⟨rfl, hw⟩; rw [hw]; clear hw) | (go_at_call 59; refine k2.mono ?_; unfold hdV; rintro e w1 ⟨rfl, hB⟩))
  have z0 : w1.heap[w.heap.size]? = some (.cells #[.int .i64 0, .int .u64 0] 34 (0, 0)) := (hB.block _ (by simp)).trans (heap_alloc_new w _)
  have z1 : (w1.alloc (.cells #[.int .i64 s, .int .u64 g] 34)).heap[w.heap.size]? = some (.cells #[.int .i64 0, .int .u64 0] 34 (0, 0)) := (Below.heap_alloc _ _ _ (heap_lt z0)).trans z0
  have hW : Below w.heap.size w (w1.alloc (.cells #[.int .i64 s, .int .u64 g] 34)) := (((Below.refl _ w).alloc (Nat.le_refl _) _).trans (hB.mono (by simp))).alloc (by have := hB.size; simp at this; omega) _
  clear k1 k2 hB z0
  generalize w1.alloc (.cells #[.int .i64 s, .int .u64 g] 34) = W at z1 hW ⊢
  have f0 := froz_of z1 0
  have f1 := froz_of z1 1
  have c0 := cell_of z1 0
  have c1 := cell_of z1 1
  simp at c0 c1
  obtain ⟨e0, e1, e2, e3⟩ := put2 z1 (.int .i64 0) (.int .u64 0)
  go_wp2
  refine bodyPost_ret (by simp [results, Tryd.results33, go_sem, e0, e1, e2, e3]; try rfl) rfl ?_
  exact ⟨rfl, (hW.setCell (Nat.le_refl _) _).setCell (Nat.le_refl _) _⟩
set_option maxHeartbeats 1000000 in
theorem make_ok (w : World) (B b m1 m2 : Nat) (N : Int → Nat) (L : Int → Option Nat) (n : Nat) (h : Tb w B b m1 m2 N L n) (s : Int) (hs : 0 ≤ s) (hi : I64 s) (hL : L s = none) (hn : n + 1 ≤ 1000000) :
    Calls Tryd.prog 33 #[.pointer (some ⟨b, 0, none⟩), .int .i64 s] w fun e w' => e = .returned (.tuple #[hdV s (N s + 1), .int .i64 0]) ∧ Tb w' B b m1 m2 (updN N s (N s + 1)) (updL L s (some (N s + 1))) (n + 1) ∧ Fh B m1 m2 w w' := by
  have hBw := h.size
  have hc := h.cells
  have c1 : w.cell? ⟨b, 1, none⟩ = some (.map (some m2)) := by rw [cell_of hc]; rfl
  have k1 := made_yes (w.alloc (.cells #[.int .i64 0, .int .u64 0] 34)) b m2 (cell_al c1 _)
  have k2 := of_any (w.alloc (.cells #[.int .i64 0, .int .u64 0] 34)) B b m1 m2 N L n (h.below ((Below.refl _ w).alloc (Nat.le_refl _) _)) s
  unfold ofM at k2
  simp only [hL] at k2
  go_enter Tryd.func33, Tryd.ntmps33
  go_upto_region 8 with (first | (go_at_call 58; refine k1.mono ?_; rintro e w' ⟨rfl, hw⟩; rw [hw]; clear hw) | (go_at_call 59; refine k2.mono ?_; unfold hdV; rintro e w1 ⟨rfl, hB⟩))
  have z0 : w1.heap[w.heap.size]? = some (.cells #[.int .i64 0, .int .u64 0] 34 (0, 0)) := (hB.block _ (by simp)).trans (heap_alloc_new w _)
  have z1 : (w1.alloc (.cells #[.int .i64 0, .int .u64 0] 34)).heap[w.heap.size]? = some (.cells #[.int .i64 0, .int .u64 0] 34 (0, 0)) := (Below.heap_alloc _ _ _ (heap_lt z0)).trans z0
  have hW : Below w.heap.size w (w1.alloc (.cells #[.int .i64 0, .int .u64 0] 34)) := (((Below.refl _ w).alloc (Nat.le_refl _) _).trans (hB.mono (by simp))).alloc (by have := hB.size; simp at this; omega) _
  clear k1 k2 hB z0
  generalize w1.alloc (.cells #[.int .i64 0, .int .u64 0] 34) = W at z1 hW ⊢
  clear c1 hc
  have hT := h.below hW
  have hc := hT.cells
  have c0 : W.cell? ⟨b, 0, none⟩ = some (.map (some m1)) := by rw [cell_of hc]; rfl
  obtain ⟨F, hF1, hF2⟩ := hT.im1
  have l1 := IM.look1 Tryd.underlying101 Tryd.underlying3 hF1 s (zero30 W)
  rw [hF2 s] at l1
  have hNs := hT.bd s
  have hwr : IntKind.u64.wrap ((N s : Int) + 1) = (N s : Int) + 1 := IntWalk.u64_in _ (by omega)
  obtain ⟨W2, p2, i2, t2⟩ := IM.put Tryd.underlying101 Tryd.underlying3 hF1 hi (.int .u64 ((N s : Int) + 1))
  go_upto_region 9 with fail
  obtain ⟨nb1, nb2, lm1, lm2⟩ := hT.nm
  have sz2 := turn_size t2
  have hF2' : Fh B m1 m2 W W2 := Fh.turn t2 (.inl rfl) hT.b1 hT.size
  have hc2 : W2.heap[b]? = some (.cells #[.map (some m1), .map (some m2)] 104 (0, 0)) := (hF2'.keep _ (heap_lt hc) nb1 nb2).trans hc
  have hz2 : W2.heap[w.heap.size]? = some (.cells #[.int .i64 0, .int .u64 0] 34 (0, 0)) := (hF2'.keep _ (heap_lt z1) (by have := h.nm; omega) (by have := h.nm; omega)).trans z1
  have j2 : IM W2 m2 n (fun k => (L k).map (hdV k)) := hT.im2.keep (t2.grown.block _ lm2 (by simp; exact Ne.symm hT.ne))
  have d0 : W2.cell? ⟨b, 0, none⟩ = some (.map (some m1)) := by rw [cell_of hc2]; rfl
  have l2 := IM.look1 Tryd.underlying101 Tryd.underlying3 i2 s (zero30 W2)
  rw [updF_self] at l2
  simp only [Option.getD_some] at l2
  clear p2 l1 c0
  go_upto_region 10 with fail
  have hc3 : (W2.alloc (.cells #[.int .i64 s, .int .u64 ((N s : Int) + 1)] 34)).heap[b]? = some (.cells #[.map (some m1), .map (some m2)] 104 (0, 0)) := (Below.heap_alloc _ _ _ (heap_lt hc2)).trans hc2
  have hz3 : (W2.alloc (.cells #[.int .i64 s, .int .u64 ((N s : Int) + 1)] 34)).heap[w.heap.size]? = some (.cells #[.int .i64 0, .int .u64 0] 34 (0, 0)) := (Below.heap_alloc _ _ _ (heap_lt hz2)).trans hz2
  have hy3 := heap_alloc_new W2 (.cells #[.int .i64 s, .int .u64 ((N s : Int) + 1)] 34)
  have j3 := j2.alloc (.cells #[.int .i64 s, .int .u64 ((N s : Int) + 1)] 34)
  have i3 := i2.alloc (.cells #[.int .i64 s, .int .u64 ((N s : Int) + 1)] 34)
  have hF3 : Fh B m1 m2 W (W2.alloc (.cells #[.int .i64 s, .int .u64 ((N s : Int) + 1)] 34)) := hF2'.alloc hT.size _
  have sz3 : W2.heap.size < (W2.alloc (.cells #[.int .i64 s, .int .u64 ((N s : Int) + 1)] 34)).heap.size := by simp
  clear l2 d0
  generalize W2.alloc (.cells #[.int .i64 s, .int .u64 ((N s : Int) + 1)] 34) = W3 at hc3 hz3 hy3 j3 i3 hF3 sz3 ⊢
  rw [sz2] at hy3 sz3
  have d1 : W3.cell? ⟨b, 1, none⟩ = some (.map (some m2)) := by rw [cell_of hc3]; rfl
  have y0 : W3.cell? ⟨W.heap.size, 0, none⟩ = some (.int .i64 s) := by rw [cell_of hy3]; rfl
  have y1 : W3.cell? ⟨W.heap.size, 1, none⟩ = some (.int .u64 ((N s : Int) + 1)) := by rw [cell_of hy3]; rfl
  obtain ⟨W4, p4, i4, t4⟩ := IM.put (w := W3.drew) Tryd.underlying102 Tryd.underlying3 (j3.keep rfl) hi (.agg #[.int .i64 s, .int .u64 ((N s : Int) + 1)])
  go_upto_region 10 with fail
  go_region
  have sz4 := turn_size t4
  have hT3 : B ≤ W3.heap.size := Nat.le_trans hT.size hF3.bel.size
  have hF4 : Fh B m1 m2 W3.drew W4 := Fh.turn t4 (.inr rfl) hT.b2 hT3
  have hF5 : Fh B m1 m2 W W4 := hF3.drew.trans hF4
  have hz4 : W4.heap[w.heap.size]? = some (.cells #[.int .i64 0, .int .u64 0] 34 (0, 0)) := (hF4.keep _ (heap_lt hz3) (by have := h.nm; omega) (by have := h.nm; omega)).trans hz3
  have hy4 : W4.heap[W.heap.size]? = some (.cells #[.int .i64 s, .int .u64 ((N s : Int) + 1)] 34 (0, 0)) := (hF4.keep _ (heap_lt hy3) (by omega) (by omega)).trans hy3
  have hc4 : W4.heap[b]? = some (.cells #[.map (some m1), .map (some m2)] 104 (0, 0)) := (hF4.keep _ (heap_lt hc3) nb1 nb2).trans hc3
  have i4' : IM W4 m1 (n + 1) (updF F s (some (.int .u64 ((N s : Int) + 1)))) := i3.keep (t4.grown.block _ i3.lt (by simp; exact hT.ne))
  have hTb : Tb W4 B b m1 m2 (updN N s (N s + 1)) (updL L s (some (N s + 1))) (n + 1) := by
    refine ⟨hc4, hT.bB, hT.b1, hT.b2, hT.ne, hn, ⟨_, i4', fun k => ?_⟩, ?_, fun k => ?_, fun k g hg => ?_⟩
    · by_cases e : k = s
      · subst e; simp [updF, updN]
      · simp only [updF, updN, if_neg e]; exact hF2 k
    · have : (fun k => (updL L s (some (N s + 1)) k).map (hdV k)) = updF (fun k => (L k).map (hdV k)) s (some (.agg #[.int .i64 s, .int .u64 ((N s : Int) + 1)])) := by
        funext k
        by_cases e : k = s
        · subst e; simp [updF, updL, hdV]
        · simp only [updF, updL, if_neg e]
      rw [this]
      exact i4
    · by_cases e : k = s
      · subst e; simp [updN]; exact hNs
      · simp only [updN, if_neg e]; exact Nat.le_succ_of_le (hT.bd k)
    · by_cases e : k = s
      · subst e
        simp only [updL, if_pos, Option.some.injEq] at hg
        subst hg
        simp [updN, hs]
      · simp only [updL, if_neg e] at hg
        simp only [updN, if_neg e]
        exact hT.gen k g hg
  have f0 := froz_of hz4 0
  have f1 := froz_of hz4 1
  have g0 := cell_of hz4 0
  have g1 := cell_of hz4 1
  have x0 := cell_of hy4 0
  have x1 := cell_of hy4 1
  simp at g0 g1 x0 x1
  obtain ⟨e0, e1, e2, e3⟩ := put2 hz4 (.int .i64 s) (.int .u64 ((N s : Int) + 1))
  have hout : Hid (Tb ((W4.setCell ⟨w.heap.size, 0, none⟩ (.int .i64 s)).setCell ⟨w.heap.size, 1, none⟩ (.int .u64 ((N s : Int) + 1))) B b m1 m2 (updN N s (N s + 1)) (updL L s (some (N s + 1))) (n + 1) ∧ Fh B m1 m2 w ((W4.setCell ⟨w.heap.size, 0, none⟩ (.int .i64 s)).setCell ⟨w.heap.size, 1, none⟩ (.int .u64 ((N s : Int) + 1)))) := by
    have hF6 : Fh B m1 m2 w W4 := (Fh.of hW hBw).trans hF5
    refine ⟨?_, (hF6.set (Nat.le_refl _) hBw _).set (Nat.le_refl _) hBw _⟩
    have hne := h.nm
    have hbl := heap_lt h.cells
    obtain ⟨G, hG1, hG2⟩ := hTb.im1
    have hk : ∀ k, k ≠ w.heap.size → ((W4.setCell ⟨w.heap.size, 0, none⟩ (.int .i64 s)).setCell ⟨w.heap.size, 1, none⟩ (.int .u64 ((N s : Int) + 1))).heap[k]? = W4.heap[k]? := fun k hk => by
      rw [Below.heap_setCell _ _ _ _ hk, Below.heap_setCell _ _ _ _ hk]
    exact ⟨(hk _ (by omega)).trans hTb.cells, hTb.bB, hTb.b1, hTb.b2, hTb.ne, hTb.nb, ⟨G, hG1.keep (hk _ (by omega)), hG2⟩, hTb.im2.keep (hk _ (by omega)), hTb.bd, hTb.gen⟩
  clear p4 y0 y1 d1
  go_wp2
  refine bodyPost_ret (by simp [results, Tryd.results33, go_sem, e0, e1, e2, e3]; try rfl) rfl ?_
  exact ⟨rfl, hout.out⟩
end Go.Proofs.YtooblonafnlfcaaDoor.H
