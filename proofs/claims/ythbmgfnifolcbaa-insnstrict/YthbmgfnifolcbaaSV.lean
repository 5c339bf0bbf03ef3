/- Towards the statement InsnStrict: three copies of an instruction, made in whatever order. -/
import Derived.Test.YthbmgfnifolcbaaSU
namespace Go.Proofs.Ythbmgfnifolcbaa
open Go.ChangeShapes Go.WideShapes Go.ChangeAt Go.RowKit
set_option linter.unusedVariables false
set_option linter.unusedSimpArgs false
set_option maxRecDepth 20000

theorem At5.other {w : World} {b c : Nat} {o d s f i : Int} (h : At5 w b o d s f i) (hn : b ≠ c) (k : Nat) (u : Value) : At5 (w.setCell ⟨c, k, none⟩ u) b o d s f i := (Below.heap_setCell _ _ _ _ hn).trans h
theorem wp_alloc24 {o : Oper} {a : Act} {w : World} {K : Act → World → Prop} {Q : Exit → Act → World → Prop} (ho : o.op = .alloc 24) (hK : K (a.put o.dst (.pointer (some ⟨w.heap.size, 0, none⟩))) (w.alloc (.cells #[.int .u8 0, .int .u8 0, .int .u8 0, .int .i16 0, .int .i32 0] 24))) : o.wp Try.prog a w K Q := by
  obtain ⟨dst, op, ty, pos, after, guard⟩ := o
  subst ho
  unfold Oper.wp
  simp only [execOp]
  go_simp
  exact hK
theorem wp_store_all {o : Oper} {a : Act} {w : World} {K : Act → World → Prop} {Q : Exit → Act → World → Prop} {p x : Operand} {b : Nat} {o1 d1 s1 f1 i1 o2 d2 s2 f2 i2 : Int} (ho : o.op = .store 24 p x) (hp : a.eval p = .pointer (some ⟨b, 0, none⟩)) (hx : a.eval x = ins o2 d2 s2 f2 i2) (h : At5 w b o1 d1 s1 f1 i1)
    (hK : ∀ w', At5 w' b o2 d2 s2 f2 i2 → GX b w w' → K (a.put o.dst undef) w') : o.wp Try.prog a w K Q := by
  obtain ⟨dst, op, ty, pos, after, guard⟩ := o
  subst ho
  obtain ⟨c0, c1, c2, c3, c4⟩ := h.cells
  have z0 := h.fz 0
  have z1 := h.fz 1
  have z2 := h.fz 2
  have z3 := h.fz 3
  have z4 := h.fz 4
  have H := hK _ (set_at (set_at (set_at (set_at (set_at h 0 (.int .u8 o2)) 1 (.int .u8 d2)) 2 (.int .u8 s2)) 3 (.int .i16 f2)) 4 (.int .i32 i2)) ((((((GX.refl b w).set 0 _).set 1 _).set 2 _).set 3 _).set 4 _)
  clear h
  unfold Oper.wp
  simp only [execOp, hp, hx]
  go_simp
  exact H
/-- Where the region stands: m: the instruction; the copies' blocks are blk 3, blk 4, blk 5. -/
structure At9 (a0 : Act) (W : World) (B : Nat) (o d s f i : Int) (L : Nat → Bool) (a : Act) (w : World) : Prop where
  size : a.tmps.size = 164
  defs : a.defers = []
  t4 : a.tmps[4]? = some (.pointer (some ⟨B, 0, none⟩))
  keep : ∀ k, (k < 26 ∨ 28 < k) → (k < 11 ∨ 13 < k) → a.tmps[k]? = a0.tmps[k]?
  bel : Below W.heap.size W w
  ld : ∀ j, j < 3 → L j = true → a.tmps[26 + j]? = some (ins o d s f i)
  dep : ∀ j, j < 3 → L (6 + j) = true → L (3 + j) = true
  al : ∃ blk : Nat → Nat, (∀ j, j < 3 → L (3 + j) = true → a.tmps[11 + j]? = some (.pointer (some ⟨blk j, 0, none⟩)) ∧ W.heap.size ≤ blk j ∧ (L (6 + j) = true → At5 w (blk j) o d s f i) ∧ (L (6 + j) = false → At5 w (blk j) 0 0 0 0 0)) ∧
    ∀ j k, j < 3 → k < 3 → j ≠ k → L (3 + j) = true → L (3 + k) = true → blk j ≠ blk k
section
variable {a0 : Act} {W : World} {B : Nat} {o d s f i : Int} {L : Nat → Bool} {a : Act} {w w' : World}
theorem At9.load (h : At9 a0 W B o d s f i L a w) (n : Nat) (hn : n < 3) : At9 a0 W B o d s f i (upd L n) (a.put (some (26 + n)) (ins o d s f i)) w := by
  obtain ⟨blk, h1, h2⟩ := h.al
  refine ⟨by simp [Act.put, h.size], by simp [Act.put, h.defs], ?_, fun k k1 k2 => by simp only [Act.put]; rw [Array.getElem?_setIfInBounds_ne (by omega)]; exact h.keep k k1 k2, h.bel, ?_, ?_, blk, ?_, ?_⟩
  · simp only [Act.put]; rw [Array.getElem?_setIfInBounds_ne (by omega)]; exact h.t4
  · intro j hj hL
    by_cases e : j = n
    · subst e
      have hlt : 26 + j < 164 := by omega
      simp [Act.put, h.size, hlt]
    · rw [upd_other L e] at hL
      simp only [Act.put]; rw [Array.getElem?_setIfInBounds_ne (by omega)]; exact h.ld j hj hL
  · intro j hj hL
    rw [upd_other L (by omega)] at hL
    rw [upd_other L (by omega)]; exact h.dep j hj hL
  · intro j hj hL
    rw [upd_other L (by omega)] at hL
    rw [upd_other L (by omega)]
    simp only [Act.put]; rw [Array.getElem?_setIfInBounds_ne (by omega)]
    exact h1 j hj hL
  · intro j k hj hk hjk hL hL'
    rw [upd_other L (by omega)] at hL hL'
    exact h2 j k hj hk hjk hL hL'
theorem At9.lt (h : At9 a0 W B o d s f i L a w) {blk : Nat → Nat} (h1 : ∀ j, j < 3 → L (3 + j) = true → a.tmps[11 + j]? = some (.pointer (some ⟨blk j, 0, none⟩)) ∧ W.heap.size ≤ blk j ∧ (L (6 + j) = true → At5 w (blk j) o d s f i) ∧ (L (6 + j) = false → At5 w (blk j) 0 0 0 0 0)) (j : Nat) (hj : j < 3) (hL : L (3 + j) = true) : blk j < w.heap.size := by
  obtain ⟨_, _, g1, g2⟩ := h1 j hj hL
  cases e : L (6 + j) with
  | true => exact (g1 e).lt
  | false => exact (g2 e).lt
theorem At9.new (h : At9 a0 W B o d s f i L a w) (n : Nat) (hn : n < 3) (hf : L (3 + n) = false) : At9 a0 W B o d s f i (upd L (3 + n)) (a.put (some (11 + n)) (.pointer (some ⟨w.heap.size, 0, none⟩))) (w.alloc (.cells #[.int .u8 0, .int .u8 0, .int .u8 0, .int .i16 0, .int .i32 0] 24)) := by
  obtain ⟨blk, h1, h2⟩ := h.al
  have hb : Below w.heap.size w (w.alloc (.cells #[.int .u8 0, .int .u8 0, .int .u8 0, .int .i16 0, .int .i32 0] 24)) := (Below.refl _ w).alloc (Nat.le_refl _) _
  refine ⟨by simp [Act.put, h.size], by simp [Act.put, h.defs], ?_, fun k k1 k2 => by simp only [Act.put]; rw [Array.getElem?_setIfInBounds_ne (by omega)]; exact h.keep k k1 k2, h.bel.trans (hb.mono h.bel.size), ?_, ?_, fun j => if j = n then w.heap.size else blk j, ?_, ?_⟩
  · simp only [Act.put]; rw [Array.getElem?_setIfInBounds_ne (by omega)]; exact h.t4
  · intro j hj hL
    rw [upd_other L (by omega)] at hL
    simp only [Act.put]; rw [Array.getElem?_setIfInBounds_ne (by omega)]; exact h.ld j hj hL
  · intro j hj hL
    rw [upd_other L (by omega)] at hL
    have := h.dep j hj hL
    by_cases e : 3 + j = 3 + n
    · rw [e]; exact upd_same L _
    · rw [upd_other L e]; exact this
  · intro j hj hL
    by_cases e : j = n
    · subst e
      have h6 : upd L (3 + j) (6 + j) = false := by
        rw [upd_other L (by omega)]
        cases e6 : L (6 + j) with
        | false => rfl
        | true => rw [h.dep j hj e6] at hf; cases hf
      have hlt : 11 + j < 164 := by omega
      refine ⟨by simp [Act.put, h.size, hlt], by simp; exact h.bel.size, fun e' => (by rw [h6] at e'; cases e'), fun _ => by simp; exact At5.new w 0 0 0 0 0⟩
    · rw [upd_other L (by omega)] at hL
      obtain ⟨g0, g1, g2, g3⟩ := h1 j hj hL
      rw [upd_other L (by omega)]
      simp only [Act.put]; rw [Array.getElem?_setIfInBounds_ne (by omega)]
      simp only [e, if_false]
      exact ⟨g0, g1, fun e' => (g2 e').below hb, fun e' => (g3 e').below hb⟩
  · intro j k hj hk hjk hL hL'
    by_cases e : j = n
    · by_cases e2 : k = n
      · omega
      · rw [upd_other L (by omega)] at hL'
        simp only [e, e2, if_true, if_false]
        have := h.lt h1 k hk hL'
        omega
    · rw [upd_other L (by omega)] at hL
      by_cases e2 : k = n
      · simp only [e, e2, if_true, if_false]
        have := h.lt h1 j hj hL
        omega
      · rw [upd_other L (by omega)] at hL'
        simp only [e, e2, if_false]
        exact h2 j k hj hk hjk hL hL'
theorem At5.gx {b c : Nat} (h : At5 w b o d s f i) (g : GX c w w') (hn : b ≠ c) : At5 w' b o d s f i := (g.block b h.lt hn).trans h
theorem At9.put (h : At9 a0 W B o d s f i L a w) (n : Nat) (hn : n < 3) (h3 : L (3 + n) = true) {blk : Nat → Nat} (h1 : ∀ j, j < 3 → L (3 + j) = true → a.tmps[11 + j]? = some (.pointer (some ⟨blk j, 0, none⟩)) ∧ W.heap.size ≤ blk j ∧ (L (6 + j) = true → At5 w (blk j) o d s f i) ∧ (L (6 + j) = false → At5 w (blk j) 0 0 0 0 0))
    (h2 : ∀ j k, j < 3 → k < 3 → j ≠ k → L (3 + j) = true → L (3 + k) = true → blk j ≠ blk k) (hA : At5 w' (blk n) o d s f i) (hg : GX (blk n) w w') : At9 a0 W B o d s f i (upd L (6 + n)) (a.put none undef) w' := by
  have hb : Below W.heap.size w w' := hg.below (h1 n hn h3).2.1 h.bel.size
  refine ⟨h.size, h.defs, h.t4, h.keep, h.bel.trans hb, ?_, ?_, blk, ?_, ?_⟩
  · intro j hj hL
    rw [upd_other L (by omega)] at hL; exact h.ld j hj hL
  · intro j hj hL
    rw [upd_other L (by omega)]
    by_cases e : j = n
    · subst e; exact h3
    · rw [upd_other L (by omega)] at hL; exact h.dep j hj hL
  · intro j hj hL
    rw [upd_other L (by omega)] at hL
    obtain ⟨g0, g1, g2, g3⟩ := h1 j hj hL
    by_cases e : j = n
    · subst e
      exact ⟨g0, g1, fun _ => hA, fun e' => by rw [upd_same] at e'; cases e'⟩
    · rw [upd_other L (by omega)]
      have hne := h2 j n hj hn e hL h3
      exact ⟨g0, g1, fun e' => (g2 e').gx hg hne, fun e' => (g3 e').gx hg hne⟩
  · intro j k hj hk hjk hL hL'
    rw [upd_other L (by omega)] at hL hL'
    exact h2 j k hj hk hjk hL hL'
end
theorem frame9 {tm tm0 : Array Value} {x p1 p2 p3 : Value} (hz : tm0.size = 164) (l0 : tm[26]? = some x) (l1 : tm[27]? = some x) (l2 : tm[28]? = some x) (q1 : tm[11]? = some p1) (q2 : tm[12]? = some p2) (q3 : tm[13]? = some p3) (keep : ∀ k, (k < 26 ∨ 28 < k) → (k < 11 ∨ 13 < k) → tm[k]? = tm0[k]?) :
    tm = (((((tm0.setIfInBounds 26 x).setIfInBounds 27 x).setIfInBounds 28 x).setIfInBounds 11 p1).setIfInBounds 12 p2).setIfInBounds 13 p3 := by
  apply Array.ext_getElem?
  intro k
  by_cases k26 : k = 26
  · subst k26; rw [l0]; simp [hz]
  by_cases k27 : k = 27
  · subst k27; rw [l1]; simp [hz]
  by_cases k28 : k = 28
  · subst k28; rw [l2]; simp [hz]
  by_cases k11 : k = 11
  · subst k11; rw [q1]; simp [hz]
  by_cases k12 : k = 12
  · subst k12; rw [q2]; simp [hz]
  by_cases k13 : k = 13
  · subst k13; rw [q3]; simp [hz]
  rw [keep k (by omega) (by omega)]
  rw [Array.getElem?_setIfInBounds_ne (by omega), Array.getElem?_setIfInBounds_ne (by omega), Array.getElem?_setIfInBounds_ne (by omega), Array.getElem?_setIfInBounds_ne (by omega), Array.getElem?_setIfInBounds_ne (by omega), Array.getElem?_setIfInBounds_ne (by omega)]
set_option maxHeartbeats 2000000 in
theorem reg75 (W : World) (B : Nat) (o d s f i : Int) (HB : At5 W B o d s f i) (Q : Exit → Act → World → Prop) (a : Act) (hsz : a.tmps.size = 164) (hdf : a.defers = []) (ht4 : a.tmps[4]? = some (.pointer (some ⟨B, 0, none⟩)))
    (hQ : ∀ w' b1 b2 b3, At5 w' b1 o d s f i → At5 w' b2 o d s f i → At5 w' b3 o d s f i → b1 ≠ b2 → b1 ≠ b3 → b2 ≠ b3 → W.heap.size ≤ b1 → W.heap.size ≤ b2 → W.heap.size ≤ b3 → Below W.heap.size W w' → Q .normal ⟨(((((a.tmps.setIfInBounds 26 (ins o d s f i)).setIfInBounds 27 (ins o d s f i)).setIfInBounds 28 (ins o d s f i)).setIfInBounds 11 (.pointer (some ⟨b1, 0, none⟩))).setIfInBounds 12 (.pointer (some ⟨b2, 0, none⟩))).setIfInBounds 13 (.pointer (some ⟨b3, 0, none⟩)), []⟩ w') :
    (Code.region 5 #[{ dst := some 26, op := Op.load 24 (Operand.tmp 4), type := 24, pos := "law.go:94", after := #[], guard := none }, { dst := some 27, op := Op.load 24 (Operand.tmp 4), type := 24, pos := "law.go:94", after := #[{ on := 6, ground := Ground.gcOnly Departure.lateStores }], guard := none }, { dst := some 28, op := Op.load 24 (Operand.tmp 4), type := 24, pos := "law.go:94", after := #[{ on := 7, ground := Ground.gcOnly Departure.lateStores }], guard := none }, { dst := some 11, op := Op.alloc 24, type := 0, pos := "law.go:94", after := #[], guard := none }, { dst := some 12, op := Op.alloc 24, type := 0, pos := "law.go:94", after := #[], guard := none }, { dst := some 13, op := Op.alloc 24, type := 0, pos := "law.go:94", after := #[], guard := none }, { dst := none, op := Op.store 24 (Operand.tmp 11) (Operand.tmp 26), type := 0, pos := "law.go:94", after := #[{ on := 3, ground := Ground.data }, { on := 0, ground := Ground.data }, { on := 0, ground := Ground.phase }, { on := 1, ground := Ground.textOnly Departure.lateStores }, { on := 2, ground := Ground.textOnly Departure.lateStores }, { on := 3, ground := Ground.phase }, { on := 4, ground := Ground.phase }, { on := 5, ground := Ground.phase }], guard := none }, { dst := none, op := Op.store 24 (Operand.tmp 12) (Operand.tmp 27), type := 0, pos := "law.go:94", after := #[{ on := 4, ground := Ground.data }, { on := 1, ground := Ground.data }, { on := 6, ground := Ground.chain }, { on := 0, ground := Ground.phase }, { on := 1, ground := Ground.phase }, { on := 2, ground := Ground.textOnly Departure.lateStores }, { on := 3, ground := Ground.phase }, { on := 4, ground := Ground.phase }, { on := 5, ground := Ground.phase }, { on := 6, ground := Ground.phase }], guard := none }, { dst := none, op := Op.store 24 (Operand.tmp 13) (Operand.tmp 28), type := 0, pos := "law.go:94", after := #[{ on := 5, ground := Ground.data }, { on := 2, ground := Ground.data }, { on := 7, ground := Ground.chain }, { on := 0, ground := Ground.phase }, { on := 1, ground := Ground.phase }, { on := 2, ground := Ground.phase }, { on := 3, ground := Ground.phase }, { on := 4, ground := Ground.phase }, { on := 5, ground := Ground.phase }, { on := 6, ground := Ground.phase }, { on := 7, ground := Ground.phase }], guard := none }] true).wp Try.prog Q a W := by
  refine wp_region_inv (by kernel_rfl) (At9 a W B o d s f i) (by kernel_rfl) ⟨hsz, hdf, ht4, fun _ _ _ => rfl, (Below.refl _ _).drew, fun j _ h => by simp at h, fun j _ h => by simp at h, fun _ => 0, fun j _ h => by simp at h, fun j k _ _ _ h => by simp at h⟩ ?step ?fin
  case fin =>
    intro L a' w' hL h
    obtain ⟨blk, h1, h2⟩ := h.al
    have L' : ∀ n, n < 9 → L n = true := fun n hn => hL n hn
    obtain ⟨p1, q1, r1, -⟩ := h1 0 (by omega) (L' 3 (by omega))
    obtain ⟨p2, q2, r2, -⟩ := h1 1 (by omega) (L' 4 (by omega))
    obtain ⟨p3, q3, r3, -⟩ := h1 2 (by omega) (L' 5 (by omega))
    obtain ⟨tm, df⟩ := a'
    have e1 : df = [] := h.defs
    subst e1
    have ea := frame9 (tm := tm) (tm0 := a.tmps) hsz (h.ld 0 (by omega) (L' 0 (by omega))) (h.ld 1 (by omega) (L' 1 (by omega))) (h.ld 2 (by omega) (L' 2 (by omega))) p1 p2 p3 h.keep
    rw [ea]
    exact hQ w' (blk 0) (blk 1) (blk 2) (r1 (L' 6 (by omega))) (r2 (L' 7 (by omega))) (r3 (L' 8 (by omega))) (h2 0 1 (by omega) (by omega) (by omega) (L' 3 (by omega)) (L' 4 (by omega))) (h2 0 2 (by omega) (by omega) (by omega) (L' 3 (by omega)) (L' 5 (by omega))) (h2 1 2 (by omega) (by omega) (by omega) (L' 4 (by omega)) (L' 5 (by omega))) q1 q2 q3 h.bel
  case step =>
    refine allOps_cons 0 ?_ ?_
    · refine keeps_free rfl ?_
      intro L a w hL hd h
      obtain ⟨c0, c1, c2, c3, c4⟩ := (At5.below HB h.bel).cells
      refine wp_load_ins rfl (by simp [Act.eval, h.t4]) c0 c1 c2 c3 c4 ?_
      exact h.load 0 (by omega)
    refine allOps_cons 1 ?_ ?_
    · refine keeps_free rfl ?_
      intro L a w hL hd h
      obtain ⟨c0, c1, c2, c3, c4⟩ := (At5.below HB h.bel).cells
      refine wp_load_ins rfl (by simp [Act.eval, h.t4]) c0 c1 c2 c3 c4 ?_
      exact h.load 1 (by omega)
    refine allOps_cons 2 ?_ ?_
    · refine keeps_free rfl ?_
      intro L a w hL hd h
      obtain ⟨c0, c1, c2, c3, c4⟩ := (At5.below HB h.bel).cells
      refine wp_load_ins rfl (by simp [Act.eval, h.t4]) c0 c1 c2 c3 c4 ?_
      exact h.load 2 (by omega)
    refine allOps_cons 3 ?_ ?_
    · refine keeps_free rfl ?_
      intro L a w hL hd h
      refine wp_alloc24 rfl ?_
      exact h.new 0 (by omega) hL
    refine allOps_cons 4 ?_ ?_
    · refine keeps_free rfl ?_
      intro L a w hL hd h
      refine wp_alloc24 rfl ?_
      exact h.new 1 (by omega) hL
    refine allOps_cons 5 ?_ ?_
    · refine keeps_free rfl ?_
      intro L a w hL hd h
      refine wp_alloc24 rfl ?_
      exact h.new 2 (by omega) hL
    refine allOps_cons 6 ?_ ?_
    · refine keeps_free rfl ?_
      intro L a w hL hd h
      obtain ⟨e0, e1, -⟩ := hd
      obtain ⟨blk, h1, h2⟩ := h.al
      have h3 : L (3 + 0) = true := e0 rfl
      obtain ⟨g0, g1, g2, g3⟩ := h1 0 (by omega) h3
      have hl := h.ld 0 (by omega) (e1 rfl)
      refine wp_store_all (b := blk 0) (o2 := o) (d2 := d) (s2 := s) (f2 := f) (i2 := i) rfl (by simp [Act.eval, g0]) (by simp [Act.eval, hl]) (g3 hL) ?_
      intro w' hA hg
      exact h.put 0 (by omega) h3 h1 h2 hA hg
    refine allOps_cons 7 ?_ ?_
    · refine keeps_free rfl ?_
      intro L a w hL hd h
      obtain ⟨e0, e1, -⟩ := hd
      obtain ⟨blk, h1, h2⟩ := h.al
      have h3 : L (3 + 1) = true := e0 rfl
      obtain ⟨g0, g1, g2, g3⟩ := h1 1 (by omega) h3
      have hl := h.ld 1 (by omega) (e1 rfl)
      refine wp_store_all (b := blk 1) (o2 := o) (d2 := d) (s2 := s) (f2 := f) (i2 := i) rfl (by simp [Act.eval, g0]) (by simp [Act.eval, hl]) (g3 hL) ?_
      intro w' hA hg
      exact h.put 1 (by omega) h3 h1 h2 hA hg
    refine allOps_cons 8 ?_ ?_
    · refine keeps_free rfl ?_
      intro L a w hL hd h
      obtain ⟨e0, e1, -⟩ := hd
      obtain ⟨blk, h1, h2⟩ := h.al
      have h3 : L (3 + 2) = true := e0 rfl
      obtain ⟨g0, g1, g2, g3⟩ := h1 2 (by omega) h3
      have hl := h.ld 2 (by omega) (e1 rfl)
      refine wp_store_all (b := blk 2) (o2 := o) (d2 := d) (s2 := s) (f2 := f) (i2 := i) rfl (by simp [Act.eval, g0]) (by simp [Act.eval, hl]) (g3 hL) ?_
      intro w' hA hg
      exact h.put 2 (by omega) h3 h1 h2 hA hg
    exact allOps_nil 9
end Go.Proofs.Ythbmgfnifolcbaa
