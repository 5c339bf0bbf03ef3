/- Towards the statements of package graph (layer 17): Pop, Remove. -/
import Derived.Test.YthgpbbpmfpfjnaaGN
import Derived.Test.YthgpbbpmfpfjnaaGM
namespace Go.Proofs.Ythgpbbpmfpfjnaa
open Go.ChangeShapes Go.WideShapes Go.ChangeAt Go.RowKit
set_option linter.unusedVariables false
set_option linter.unusedSimpArgs false
set_option maxRecDepth 20000
def endF (L : List FKey) (q : Bool) : Option FKey := if q then L.head? else L.getLast?
theorem endF_mem {L : List FKey} {q : Bool} {f : FKey} (h : endF L q = some f) : f ∈ L := by
  unfold endF at h
  split at h
  · exact List.mem_of_head? h
  · exact List.mem_of_getLast? h
theorem endM_map (L : List FKey) (q : Bool) : endM (L.map Prod.fst) q = (endF L q).map Prod.fst := by
  unfold endM endF
  split
  · simp
  · simp
def lenY (Y : Ys) (p : PKey) : Nat := ((Y p).map fun y => y.2.length).getD 0
def kindY (Y : Ys) (p : PKey) : Int := match Y p with
  | none => 0
  | some (tr, _) => if tr then 2 else 1
def peekY (Y : Ys) (p : PKey) (q : Bool) : Option FKey := match Y p with
  | some (false, L) => endF L q
  | _ => none
def atY (Y : Ys) (p : PKey) (i : Int) : Option FKey := (Y p).bind fun y => if i < 0 then none else y.2[i.toNat]?
/-- What Pop leaves. -/
def popY (Y : Ys) (p : PKey) (q : Bool) : Ys := match peekY Y p q with
  | some f => cutY Y p f
  | none => Y
theorem lenZ_eq (Z : Zs) (p : PKey) : lenZ (Z p) = lenY (yOf Z) p := by unfold lenZ lenY yOf; cases Z p <;> rfl
theorem kindZ_eq (Z : Zs) (p : PKey) : kindZ (Z p) = kindY (yOf Z) p := by unfold kindY yOf; cases Z p <;> rfl
theorem peekZ_eq (Z : Zs) (p : PKey) (q : Bool) : peekZ (Z p) q = (peekY (yOf Z) p q).map Prod.fst := by
  unfold peekZ peekY yOf
  cases Z p with
  | none => rfl
  | some x =>
    simp only [Option.map_some, Option.bind_some]
    cases ht : x.tr
    · simp [Sp.K, endM_map]
    · simp
theorem atZ_eq (Z : Zs) (p : PKey) (i : Int) : atZ (Z p) i = (atY (yOf Z) p i).map Prod.fst := by
  unfold atZ atY yOf
  cases Z p with
  | none => rfl
  | some x =>
    simp only [Option.map_some, Option.bind_some, atM, Sp.K]
    split <;> simp
theorem peek_in {Z : Zs} {p : PKey} {q : Bool} {f : FKey} (h : peekY (yOf Z) p q = some f) : ∃ x, Z p = some x ∧ x.tr = false ∧ f ∈ x.L := by
  unfold peekY yOf at h
  cases hz : Z p with
  | none => rw [hz] at h; cases h
  | some x =>
    rw [hz] at h
    simp only [Option.map_some] at h
    cases ht : x.tr with
    | true => rw [ht] at h; cases h
    | false => rw [ht] at h; exact ⟨x, rfl, ht, endF_mem h⟩
set_option maxHeartbeats 1000000 in
theorem gpop_any (w : World) (B g N : Nat) (Y : Ys) (A : Nat → Prop) (h : Gi w B g N Y A) (p : PKey) (q : Bool) :
    Calls Try.prog 11 #[.pointer (some ⟨g, 0, none⟩), pK p, .bool q] w fun e w' => e = .returned (.tuple #[oV ((peekY Y p q).map Prod.fst), .bool (peekY Y p q).isSome]) ∧ ∃ A', Gi w' B g N (popY Y p q) A' ∧ FG B A A' w w' := by
  obtain ⟨m1, m2, Z, h, rfl, rfl⟩ := h
  have hb1 := ((Below.refl _ w).alloc (Nat.le_refl _) (.cells #[.int .i64 p.1, .int .i64 p.2.1, .int .i64 p.2.2] 28)).alloc (by simp) (.cells #[.int .i64 0, .int .u64 0] 31)
  have y4 := heap_al (heap_alloc_new w (.cells #[.int .i64 p.1, .int .i64 p.2.1, .int .i64 p.2.2] 28)) (.cells #[.int .i64 0, .int .u64 0] 31)
  have y6 := heap_alloc_new (w.alloc (.cells #[.int .i64 p.1, .int .i64 p.2.1, .int .i64 p.2.2] 28)) (.cells #[.int .i64 0, .int .u64 0] 31)
  rw [World.size_alloc] at y6
  have hBw := h.size
  have g1 := h.bel hb1
  unfold pK P.hK
  go_enter Try.func11, Try.ntmps11
  go_upto_region 1 with fail
  generalize (w.alloc (.cells #[.int .i64 p.1, .int .i64 p.2.1, .int .i64 p.2.2] 28)).alloc (.cells #[.int .i64 0, .int .u64 0] 31) = W at hb1 y4 y6 g1 ⊢
  have k1 := gpeek_any W B g m1 m2 N Z g1 p q
  obtain ⟨d0, d1, d2⟩ := pl_cells y4
  rw [peekZ_eq, oV_eq] at k1
  unfold pK P.hK at k1
  cases ho : peekY (yOf Z) p q with
  | none =>
    rw [ho] at k1
    simp only [Option.map_some, Option.isSome_some, Option.map_none, Option.isSome_none] at k1
    rw [show o1 none = 0 from rfl, show o2 none = 0 from rfl] at k1
    go_upto_region 2 with (go_at_call 20; refine k1.mono ?_; rintro e w1 ⟨rfl, hb2⟩)
    have y6 := heap_al ((hb2.block _ (heap_lt y6)).trans y6) (.cells #[.int .i64 0, .int .u64 0] 31)
    have y4 := heap_al ((hb2.block _ (heap_lt y4)).trans y4) (.cells #[.int .i64 0, .int .u64 0] 31)
    have ya := heap_alloc_new w1 (.cells #[.int .i64 0, .int .u64 0] 31)
    have hw1 := hb1.trans (hb2.mono hb1.size)
    have hb3 : Below w.heap.size w (w1.alloc (.cells #[.int .i64 0, .int .u64 0] 31)) := hw1.alloc hw1.size _
    have la : w.heap.size + 1 < w1.heap.size := Nat.lt_of_lt_of_le (heap_lt (by assumption : W.heap[w.heap.size + 1]? = _)) hb2.size
    have g2 := h.bel hb3
    clear k1 g1 hb1 hb2 d0 d1 d2 hw1
    generalize w1.alloc (.cells #[.int .i64 0, .int .u64 0] 31) = w2 at y4 y6 ya hb3 g2 ⊢
    generalize w1.heap.size = a at ya la ⊢
    obtain ⟨b0, b1⟩ := hd_cells (k := (((0, 0) : HKey))) ya
    obtain ⟨s0, s1, s2, s3⟩ := put2 y6 (.int .i64 0) (.int .u64 0)
    have f0 := froz_of y6 0
    have f1 := froz_of y6 1
    have z0 := cell_of y6 0
    have z1 := cell_of y6 1
    simp at z0 z1
    have hbs : Below w.heap.size w2 ((w2.setCell ⟨w.heap.size + 1, 0, none⟩ (.int .i64 0)).setCell ⟨w.heap.size + 1, 1, none⟩ (.int .u64 0)) := Below.setCell (p := (⟨w.heap.size + 1, 1, none⟩ : Addr)) (Below.setCell (p := (⟨w.heap.size + 1, 0, none⟩ : Addr)) (Below.refl _ _) (Nat.le_succ _) _) (Nat.le_succ _) _
    go_wp2
    refine bodyPost_ret (by simp [results, Try.results11, go_sem, s0, s1, s2, s3]; try rfl) rfl ?_
    refine ⟨rfl, _, ⟨m1, m2, Z, h.bel (hb3.trans hbs), by unfold popY; rw [ho], rfl⟩, FG.of (hb3.trans hbs) hBw⟩
  | some f =>
    rw [ho] at k1
    simp only [Option.map_some, Option.isSome_some, Option.map_none, Option.isSome_none] at k1
    rw [show o1 (some f.1) = f.1.1 from rfl, show o2 (some f.1) = f.1.2 from rfl] at k1
    go_upto_region 2 with (go_at_call 20; refine k1.mono ?_; rintro e w1 ⟨rfl, hb2⟩)
    have y6 := heap_al ((hb2.block _ (heap_lt y6)).trans y6) (.cells #[.int .i64 f.1.1, .int .u64 f.1.2] 31)
    have y4 := heap_al ((hb2.block _ (heap_lt y4)).trans y4) (.cells #[.int .i64 f.1.1, .int .u64 f.1.2] 31)
    have ya := heap_alloc_new w1 (.cells #[.int .i64 f.1.1, .int .u64 f.1.2] 31)
    have hw1 := hb1.trans (hb2.mono hb1.size)
    have hb3 : Below w.heap.size w (w1.alloc (.cells #[.int .i64 f.1.1, .int .u64 f.1.2] 31)) := hw1.alloc hw1.size _
    have la : w.heap.size + 1 < w1.heap.size := Nat.lt_of_lt_of_le (heap_lt (by assumption : W.heap[w.heap.size + 1]? = _)) hb2.size
    have g2 := h.bel hb3
    clear k1 g1 hb1 hb2 d0 d1 d2 hw1
    generalize w1.alloc (.cells #[.int .i64 f.1.1, .int .u64 f.1.2] 31) = w2 at y4 y6 ya hb3 g2 ⊢
    generalize w1.heap.size = a at ya la ⊢
    obtain ⟨x, hz, ht, hf⟩ := peek_in ho
    have k2 := leave_gr w2 B g m1 m2 N Z g2 p x hz f hf
    unfold pK P.hK hK2 at k2
    obtain ⟨d0, d1, d2⟩ := pl_cells y4
    obtain ⟨b0, b1⟩ := hd_cells ya
    go_upto_region 4 with (go_at_call 26; refine k2.mono ?_; rintro e w4 ⟨rfl, Z', hG, hF, hY⟩)
    have hlt := h.lt
    have hb6 := heap_lt y6
    have nf : ∀ k, w.heap.size ≤ k → ¬ Fp g m1 m2 Z k := fun k hk q => by have := (hlt k q).2; omega
    replace y6 := (hF.keep _ (heap_lt y6) (nf _ (Nat.le_succ _))).trans y6
    replace ya := (hF.keep _ (heap_lt ya) (nf _ (by omega))).trans ya
    have nb6 : ¬ Fp g m1 m2 Z' (w.heap.size + 1) := fun q => (hF.sub _ q).elim (nf _ (Nat.le_succ _)) (fun c => absurd (hb6 : w.heap.size + 1 < w2.heap.size) (by omega))
    have hG0 : FG B (Fp g m1 m2 Z) (Fp g m1 m2 Z') w w4 := (FG.of hb3 hBw).trans hF
    clear k2 d0 d1 d2 b0 b1 y4 hF g2
    obtain ⟨b0, b1⟩ := hd_cells (k := (f.1)) ya
    obtain ⟨s0, s1, s2, s3⟩ := put2 y6 (.int .i64 f.1.1) (.int .u64 f.1.2)
    have f0 := froz_of y6 0
    have f1 := froz_of y6 1
    have z0 := cell_of y6 0
    have z1 := cell_of y6 1
    simp at z0 z1
    have hbs : Below w.heap.size w4 ((w4.setCell ⟨w.heap.size + 1, 0, none⟩ (.int .i64 f.1.1)).setCell ⟨w.heap.size + 1, 1, none⟩ (.int .u64 f.1.2)) := Below.setCell (p := (⟨w.heap.size + 1, 1, none⟩ : Addr)) (Below.setCell (p := (⟨w.heap.size + 1, 0, none⟩ : Addr)) (Below.refl _ _) (Nat.le_succ _) _) (Nat.le_succ _) _
    go_wp2
    refine bodyPost_ret (by simp [results, Try.results11, go_sem, s0, s1, s2, s3]; try rfl) rfl ?_
    refine ⟨by rw [ho]; rfl, _, ⟨m1, m2, Z', hG.keep fun k hk => ?_, by rw [hY]; unfold popY; rw [ho], rfl⟩, ?_⟩
    · have hne : k ≠ w.heap.size + 1 := by rintro rfl; exact nb6 hk
      rw [Below.heap_setCell _ _ _ _ (by simpa using hne), Below.heap_setCell _ _ _ _ (by simpa using hne)]
    · exact ⟨hG0.bel.trans (hbs.mono hBw), fun k hk hn => (hbs.block k hk).trans (hG0.keep k hk hn), hG0.sub⟩
open Classical in
/-- What Remove answers, and leaves. -/
noncomputable def remY (Y : Ys) (p : PKey) (f : FKey) : Bool × Ys := if ∃ y, Y p = some y ∧ f ∈ y.2 then (true, cutY Y p f) else (false, Y)
set_option maxHeartbeats 1000000 in
theorem grem_any (w : World) (B g N : Nat) (Y : Ys) (A : Nat → Prop) (h : Gi w B g N Y A) (p : PKey) (f : FKey) :
    Calls Try.prog 12 #[.pointer (some ⟨g, 0, none⟩), pK p, hK2 f.1, .int .i64 f.2] w fun e w' => e = .returned (.bool (remY Y p f).1) ∧ ∃ A', Gi w' B g N (remY Y p f).2 A' ∧ FG B A A' w w' := by
  obtain ⟨m1, m2, Z, h, rfl, rfl⟩ := h
  have hb1 := ((Below.refl _ w).alloc (Nat.le_refl _) (.cells #[.int .i64 p.1, .int .i64 p.2.1, .int .i64 p.2.2] 28)).alloc (by simp) (.cells #[.int .i64 f.1.1, .int .u64 f.1.2] 31)
  have y5 := heap_al (heap_alloc_new w (.cells #[.int .i64 p.1, .int .i64 p.2.1, .int .i64 p.2.2] 28)) (.cells #[.int .i64 f.1.1, .int .u64 f.1.2] 31)
  have y6 := heap_alloc_new (w.alloc (.cells #[.int .i64 p.1, .int .i64 p.2.1, .int .i64 p.2.2] 28)) (.cells #[.int .i64 f.1.1, .int .u64 f.1.2] 31)
  rw [World.size_alloc] at y6
  have hBw := h.size
  have g1 := h.bel hb1
  unfold pK P.hK hK2
  go_enter Try.func12, Try.ntmps12
  go_upto_region 1 with fail
  generalize (w.alloc (.cells #[.int .i64 p.1, .int .i64 p.2.1, .int .i64 p.2.2] 28)).alloc (.cells #[.int .i64 f.1.1, .int .u64 f.1.2] 31) = W at hb1 y5 y6 g1 ⊢
  obtain ⟨pi, b, hpb, k1⟩ := gin_any W B g m1 m2 N Z g1 f
  unfold pK P.hK hK2 at k1
  obtain ⟨c0, c1⟩ := hd_cells y6
  go_upto_region 2 with (go_at_call 14; refine k1.mono ?_; rintro e w1 ⟨rfl, hb2⟩)
  have y5 := heap_al ((hb2.block _ (heap_lt y5)).trans y5) (.cells #[.int .i64 pi.1, .int .i64 pi.2.1, .int .i64 pi.2.2] 28)
  have y6 := heap_al ((hb2.block _ (heap_lt y6)).trans y6) (.cells #[.int .i64 pi.1, .int .i64 pi.2.1, .int .i64 pi.2.2] 28)
  have ya := heap_alloc_new w1 (.cells #[.int .i64 pi.1, .int .i64 pi.2.1, .int .i64 pi.2.2] 28)
  have hw1 := hb1.trans (hb2.mono hb1.size)
  have hb3 : Below w.heap.size w (w1.alloc (.cells #[.int .i64 pi.1, .int .i64 pi.2.1, .int .i64 pi.2.2] 28)) := hw1.alloc hw1.size _
  have g2 := h.bel hb3
  clear k1 g1 hb1 hb2 c0 c1 hw1
  generalize w1.alloc (.cells #[.int .i64 pi.1, .int .i64 pi.2.1, .int .i64 pi.2.2] 28) = w2 at y5 y6 ya hb3 g2 ⊢
  generalize w1.heap.size = a at ya ⊢
  obtain ⟨d0, d1, d2⟩ := pl_cells y5
  obtain ⟨e0, e1, e2⟩ := pl_cells (p := pi) ya
  have q1 := P.neqP pi p
  unfold P.hK at q1
  rcases hpb with ⟨rfl, x, hx, hfx⟩ | ⟨rfl, -, hnf⟩
  · by_cases hp : pi = p
    · subst hp
      simp only [decide_true, Bool.not_true] at q1
      go_upto_region 4 with fail
      have k2 := leave_gr w2 B g m1 m2 N Z g2 pi x hx f hfx
      obtain ⟨c0, c1⟩ := hd_cells y6
      unfold pK P.hK hK2 at k2
      go_wp2_with (go_at_call 26; refine k2.mono ?_; rintro e w4 ⟨rfl, Z', hG, hF, hY⟩)
      have hr : remY (yOf Z) pi f = (true, cutY (yOf Z) pi f) := if_pos ⟨(x.tr, x.L), by simp [yOf, hx], hfx⟩
      all_goals go_returns
      all_goals exact ⟨by rw [hr]; rfl, _, ⟨m1, m2, Z', hG, by rw [hY, hr], rfl⟩, (FG.of hb3 hBw).trans hF⟩
    · have hd : decide (pi = p) = false := decide_eq_false hp
      simp only [hd, Bool.not_false] at q1
      have hr : remY (yOf Z) p f = (false, yOf Z) := if_neg (by
        rintro ⟨y, hy, hfy⟩
        obtain ⟨z, hz, rfl⟩ := Option.map_eq_some_iff.1 hy
        exact hp (h.once hx hz hfx hfy))
      go_wp2
      all_goals go_returns
      all_goals exact ⟨by rw [hr]; rfl, _, ⟨m1, m2, Z, h.bel hb3, by rw [hr], rfl⟩, FG.of hb3 hBw⟩
  · have hr : remY (yOf Z) p f = (false, yOf Z) := if_neg (by
      rintro ⟨y, hy, hfy⟩
      obtain ⟨z, hz, rfl⟩ := Option.map_eq_some_iff.1 hy
      exact hnf _ _ hz hfy)
    go_wp2
    all_goals go_returns
    all_goals exact ⟨by rw [hr]; rfl, _, ⟨m1, m2, Z, h.bel hb3, by rw [hr], rfl⟩, FG.of hb3 hBw⟩
end Go.Proofs.Ythgpbbpmfpfjnaa
