/- Towards the statements of package heap (layer 14): Count, Kind, Hold, Drop, Used, Room; what none answers. -/
import Derived.Test.YtooblonafnlfcaaDoorPB
namespace Go.Proofs.YtooblonafnlfcaaDoor
open Go.ChangeShapes Go.WideShapes Go.ChangeAt Go.RowKit
set_option linter.unusedVariables false
set_option linter.unusedSimpArgs false
set_option maxRecDepth 20000
variable {Yo : Nat → Prop}
theorem tOf_upd {M : MJ} {K : Nat → Nat} {k : Nat} {o o' : Oj} (h : M k = some o) (e : o'.bs = o.bs) : tOf (updM M k (some o')) K = tOf M K := by
  funext j
  unfold tOf
  by_cases ej : j = k
  · subst ej; rw [updM_self, h]; simp [e]
  · rw [updM_ne _ _ ej]
theorem getM_upd (M : MJ) (k : Nat) (x : Option Oj) (s : Int) : getM (updM M k x) s = if s = k then x else getM M s := by
  unfold getM
  by_cases e : s < 0
  · rw [if_pos e, if_neg (by omega), if_pos e]
  · rw [if_neg e, if_neg e]
    by_cases e2 : s = k
    · subst e2; simp [updM]
    · rw [if_neg e2, updM_ne _ _ (by omega)]
theorem lOf_upd {M : MJ} {k : Nat} {o o' : Oj} (h : M k = some o) (e : o'.g = o.g) : lOf (updM M k (some o')) = lOf M := by
  funext s
  unfold lOf
  rw [getM_upd]
  by_cases e2 : s = k
  · rw [if_pos e2, e2, getM_nat, h]; simp [e]
  · rw [if_neg e2]
theorem pOf_upd {M : MJ} {A : Nat → Nat} {k : Nat} {o o' : Oj} (h : M k = some o) : pOf (updM M k (some o')) A = pOf M A := by
  funext s
  unfold pOf
  rw [getM_upd]
  by_cases e2 : s = k
  · rw [if_pos e2, e2, getM_nat, h]; rfl
  · rw [if_neg e2]
theorem Ho.setO {w : World} {B : Nat} {q : HQ} {M : MJ} {A : Nat → Nat} {n : Nat} (h : Ho Yo w B q M A n) {k : Nat} {o : Oj} (hM : M k = some o) (c : Int) (hc : 0 ≤ c ∧ c ≤ n) :
    Ho Yo (w.setCell ⟨A k, 0, none⟩ (.int .i64 c)) B q (updM M k (some { o with c := c })) A n := by
  obtain ⟨a1, a2, a3, a4, a5⟩ := h.ob k o hM
  have hs := heap_setCell_same w (A k) 0 _ _ (.int .i64 c) a2
  have hk : ∀ j x, j ≠ A k → w.heap[j]? = some x → (w.setCell ⟨A k, 0, none⟩ (.int .i64 c)).heap[j]? = some x := fun j x hj hx => heap_set hx hj
  refine ⟨h.bB, hk _ _ (by intro e; have := h.cells; rw [e, a2] at this; cases this) h.cells, h.b3, ?_, fun j x e => ?_, fun i j x y e1 e2 e3 => ?_⟩
  · rw [pOf_upd hM]
    obtain ⟨es, cl, h1, h2⟩ := h.im
    exact ⟨es, cl, hk _ _ (by intro e; rw [e, a2] at h1; cases h1) h1, h2⟩
  · by_cases ej : j = k
    · subst ej
      rw [updM_self] at e
      cases e
      exact ⟨a1, by simpa [ojV] using hs, hc.1, hc.2, a5⟩
    · rw [updM_ne _ _ ej] at e
      obtain ⟨b1, b2, b3⟩ := h.ob j x e
      exact ⟨b1, hk _ _ (fun e' => ej (h.ap j k x o e hM e')) b2, b3⟩
  · have : ∀ i x, updM M k (some { o with c := c }) i = some x → ∃ y, M i = some y := fun i x e => by
      by_cases ej : i = k
      · subst ej; exact ⟨o, hM⟩
      · rw [updM_ne _ _ ej] at e; exact ⟨x, e⟩
    obtain ⟨x', hx'⟩ := this i x e1
    obtain ⟨y', hy'⟩ := this j y e2
    exact h.ap i j x' y' hx' hy' e3
theorem Hp.setO {w : World} {B : Nat} {q : HQ} {room used : Int} {N : Int → Nat} {M : MJ} {ns : Nat} {A K : Nat → Nat} {n : Nat} (h : Hp Yo w B q room used N M ns A K n) {k : Nat} {o : Oj} (hM : M k = some o) (c : Int) (hc : 0 ≤ c ∧ c ≤ n) :
    Hp Yo (w.setCell ⟨A k, 0, none⟩ (.int .i64 c)) B q room used N (updM M k (some { o with c := c })) ns A K n ∧ Fq Yo B q w (w.setCell ⟨A k, 0, none⟩ (.int .i64 c)) := by
  obtain ⟨a1, a2, a3, a4, a5⟩ := h.ow.ob k o hM
  have hk : ∀ (j : Nat) (x : Obj), w.heap[j]? = some x → (∀ cs z, x ≠ .cells cs 87 z) → (w.setCell ⟨A k, 0, none⟩ (.int .i64 c)).heap[j]? = some x := fun j x hx hn => heap_set hx (by rintro rfl; rw [a2] at hx; cases hx; exact hn _ _ rfl)
  refine ⟨⟨h.ow.setO hM c hc, ?_, ?_, ?_, h.ne1, h.ne2, h.nn, h.n5, h.yo⟩, Fq.ofO a2 a1 a5 _ _⟩
  · rw [tOf_upd (o' := { o with c := c }) hM rfl]
    exact h.sl.byT (by simp) fun j cs t z ht hx => hk _ _ hx (by rintro cs z e; cases e; rcases ht with e | e | e <;> cases e)
  · rw [lOf_upd (o' := { o with c := c }) hM rfl]
    exact tb_byK h.tb fun j x hx hm => hk _ _ hx (by rintro cs z rfl; rcases hm with ⟨_, hm⟩ | ⟨cs, z, e⟩; · exact hm _ _ _ rfl
                                                     · cases e)
  · rw [tOf_upd (o' := { o with c := c }) hM rfl]
    exact h.us
theorem Hp.cellsO {w : World} {B : Nat} {q : HQ} {room used : Int} {N : Int → Nat} {M : MJ} {ns : Nat} {A K : Nat → Nat} {n : Nat} (h : Hp Yo w B q room used N M ns A K n) {k : Nat} {o : Oj} (hM : M k = some o) :
    w.cell? ⟨A k, 0, none⟩ = some (.int .i64 o.c) ∧ w.cell? ⟨A k, 1, none⟩ = some (.int .i64 o.k) ∧ w.frozen? ⟨A k, 0, none⟩ = false ∧ ∀ c, (w.setCell ⟨A k, 0, none⟩ (.int .i64 c)).cell? ⟨A k, 0, none⟩ = some (.int .i64 c) := by
  obtain ⟨a1, a2, a3, a4, a5⟩ := h.ow.ob k o hM
  refine ⟨by rw [cell_of a2]; rfl, by rw [cell_of a2]; rfl, froz_of a2 0, fun c => ?_⟩
  rw [cell_of (heap_setCell_same w (A k) 0 _ _ (.int .i64 c) a2)]
  rfl
def liveB (M : MJ) (s : Int) (g : Nat) : Bool := lOf M s == some g
/-- What Count, Kind tell. -/
def ctM (M : MJ) (s : Int) (g : Nat) : Int := if liveB M s g then ((getM M s).map (·.c)).getD 0 else 0
def kdM (M : MJ) (s : Int) (g : Nat) : Int := if liveB M s g then ((getM M s).map (·.k)).getD 0 else 0
theorem count_any (w : World) (B : Nat) (q : HQ) (room used : Int) (N : Int → Nat) (M : MJ) (ns : Nat) (A K : Nat → Nat) (n : Nat) (h : Hp Yo w B q room used N M ns A K n) (s : Int) (g : Nat) :
    Calls Tryd.prog 16 #[.pointer (some ⟨q.b, 0, none⟩), .agg #[.int .i64 s, .int .u64 g]] w fun e w' => e = .returned (.tuple #[.int .i64 (ctM M s g), .bool (liveB M s g)]) ∧ Below w.heap.size w w' := by
  have hbe := (Below.refl w.heap.size w).alloc (Nat.le_refl _) (.cells #[.int .i64 s, .int .u64 g] 34)
  have h1 := h.kept hbe
  cases hL : liveB M s g with
  | false =>
    have k1 := object_no _ _ _ _ _ _ _ _ _ _ _ h1 s g hL
    rw [show ctM M s g = 0 by simp [ctM, hL]]
    go_enter Tryd.func16, Tryd.ntmps16
    go_wp2_with (go_at_call 41; refine k1.mono ?_; rintro e w1 ⟨rfl, hb⟩)
    all_goals go_returns
    all_goals exact ⟨rfl, hbe.trans (hb.mono hbe.size)⟩
  | true =>
    obtain ⟨k, o, rfl, hM, rfl⟩ := live_at hL
    have k1 := object_yes _ _ _ _ _ _ _ _ _ _ _ h1 k o hM
    rw [show ctM M k o.g = o.c by simp [ctM, hL, getM_nat, hM]]
    go_enter Tryd.func16, Tryd.ntmps16
    go_wp2_with (go_at_call 41; refine k1.mono ?_; rintro e w1 ⟨rfl, hb⟩; have h2 := (h1.kept hb).cellsO hM; obtain ⟨d0, d1, d2, d3⟩ := h2)
    all_goals go_returns
    all_goals exact ⟨rfl, hbe.trans (hb.mono hbe.size)⟩
theorem kind_any (w : World) (B : Nat) (q : HQ) (room used : Int) (N : Int → Nat) (M : MJ) (ns : Nat) (A K : Nat → Nat) (n : Nat) (h : Hp Yo w B q room used N M ns A K n) (s : Int) (g : Nat) :
    Calls Tryd.prog 17 #[.pointer (some ⟨q.b, 0, none⟩), .agg #[.int .i64 s, .int .u64 g]] w fun e w' => e = .returned (.tuple #[.int .i64 (kdM M s g), .bool (liveB M s g)]) ∧ Below w.heap.size w w' := by
  have hbe := (Below.refl w.heap.size w).alloc (Nat.le_refl _) (.cells #[.int .i64 s, .int .u64 g] 34)
  have h1 := h.kept hbe
  cases hL : liveB M s g with
  | false =>
    have k1 := object_no _ _ _ _ _ _ _ _ _ _ _ h1 s g hL
    rw [show kdM M s g = 0 by simp [kdM, hL]]
    go_enter Tryd.func17, Tryd.ntmps17
    go_wp2_with (go_at_call 41; refine k1.mono ?_; rintro e w1 ⟨rfl, hb⟩)
    all_goals go_returns
    all_goals exact ⟨rfl, hbe.trans (hb.mono hbe.size)⟩
  | true =>
    obtain ⟨k, o, rfl, hM, rfl⟩ := live_at hL
    have k1 := object_yes _ _ _ _ _ _ _ _ _ _ _ h1 k o hM
    rw [show kdM M k o.g = o.k by simp [kdM, hL, getM_nat, hM]]
    go_enter Tryd.func17, Tryd.ntmps17
    go_wp2_with (go_at_call 41; refine k1.mono ?_; rintro e w1 ⟨rfl, hb⟩; have h2 := (h1.kept hb).cellsO hM; obtain ⟨d0, d1, d2, d3⟩ := h2)
    all_goals go_returns
    all_goals exact ⟨rfl, hbe.trans (hb.mono hbe.size)⟩
theorem hold_no (w : World) (B : Nat) (q : HQ) (room used : Int) (N : Int → Nat) (M : MJ) (ns : Nat) (A K : Nat → Nat) (n : Nat) (h : Hp Yo w B q room used N M ns A K n) (s : Int) (g : Nat) (hL : liveB M s g = false) :
    Calls Tryd.prog 23 #[.pointer (some ⟨q.b, 0, none⟩), .agg #[.int .i64 s, .int .u64 g]] w fun e w' => e = .returned (.tuple #[.int .i64 0, .int .i64 130]) ∧ Below w.heap.size w w' := by
  have hbe := (Below.refl w.heap.size w).alloc (Nat.le_refl _) (.cells #[.int .i64 s, .int .u64 g] 34)
  have k1 := object_no _ _ _ _ _ _ _ _ _ _ _ (h.kept hbe) s g hL
  go_enter Tryd.func23, Tryd.ntmps23
  go_wp2_with (go_at_call 41; refine k1.mono ?_; rintro e w1 ⟨rfl, hb⟩)
  all_goals go_returns
  all_goals exact ⟨rfl, hbe.trans (hb.mono hbe.size)⟩
theorem hold_ok (w : World) (B : Nat) (q : HQ) (room used : Int) (N : Int → Nat) (M : MJ) (ns : Nat) (A K : Nat → Nat) (n : Nat) (h : Hp Yo w B q room used N M ns A K n) (k : Nat) (o : Oj) (hM : M k = some o) (hn : o.c + 1 ≤ n) :
    Calls Tryd.prog 23 #[.pointer (some ⟨q.b, 0, none⟩), .agg #[.int .i64 k, .int .u64 o.g]] w fun e w' => e = .returned (.tuple #[.int .i64 (o.c + 1), .int .i64 0]) ∧ Hp Yo w' B q room used N (updM M k (some { o with c := o.c + 1 })) ns A K n ∧ Fq Yo B q w w' := by
  have hbe := (Below.refl w.heap.size w).alloc (Nat.le_refl _) (.cells #[.int .i64 k, .int .u64 o.g] 34)
  have h1 := h.kept hbe
  have k1 := object_yes _ _ _ _ _ _ _ _ _ _ _ h1 k o hM
  have hB := h.size
  have hn5 := h.n5
  obtain ⟨-, -, hc0, -, -⟩ := h.ow.ob k o hM
  go_enter Tryd.func23, Tryd.ntmps23
  go_upto_region 4 with (go_at_call 41; refine k1.mono ?_; rintro e w1 ⟨rfl, hb⟩)
  have h2 := h1.kept hb
  have hbw := hbe.trans (hb.mono hbe.size)
  obtain ⟨d0, d1, d2, d3⟩ := h2.cellsO hM
  have k2 := hold0 w1 (A k) o.c d0 d2 (by omega) (d3 _)
  obtain ⟨h3, hF⟩ := h2.setO hM (o.c + 1) (by omega)
  clear k1 d0 d1 d2 d3 h1 hbe
  generalize w1.setCell ⟨A k, 0, none⟩ (.int .i64 (o.c + 1)) = W at k2 h3 hF
  go_wp2_with (go_at_call 46; refine k2.mono ?_; rintro e w' ⟨rfl, hw⟩; rw [hw]; clear hw)
  all_goals go_returns
  all_goals exact ⟨rfl, h3, (Fq.of hbw hB).trans hF⟩
theorem hdrop_no (w : World) (B : Nat) (q : HQ) (room used : Int) (N : Int → Nat) (M : MJ) (ns : Nat) (A K : Nat → Nat) (n : Nat) (h : Hp Yo w B q room used N M ns A K n) (s : Int) (g : Nat) (hL : liveB M s g = false) :
    Calls Tryd.prog 24 #[.pointer (some ⟨q.b, 0, none⟩), .agg #[.int .i64 s, .int .u64 g]] w fun e w' => e = .returned (.tuple #[.int .i64 0, .int .i64 130]) ∧ Below w.heap.size w w' := by
  have hbe := (Below.refl w.heap.size w).alloc (Nat.le_refl _) (.cells #[.int .i64 s, .int .u64 g] 34)
  have k1 := object_no _ _ _ _ _ _ _ _ _ _ _ (h.kept hbe) s g hL
  go_enter Tryd.func24, Tryd.ntmps24
  go_wp2_with (go_at_call 41; refine k1.mono ?_; rintro e w1 ⟨rfl, hb⟩)
  all_goals go_returns
  all_goals exact ⟨rfl, hbe.trans (hb.mono hbe.size)⟩
theorem hdrop_zero (w : World) (B : Nat) (q : HQ) (room used : Int) (N : Int → Nat) (M : MJ) (ns : Nat) (A K : Nat → Nat) (n : Nat) (h : Hp Yo w B q room used N M ns A K n) (k : Nat) (o : Oj) (hM : M k = some o) (hz : o.c = 0) :
    Calls Tryd.prog 24 #[.pointer (some ⟨q.b, 0, none⟩), .agg #[.int .i64 k, .int .u64 o.g]] w fun e w' => e = .returned (.tuple #[.int .i64 0, .int .i64 3]) ∧ Below w.heap.size w w' := by
  have hbe := (Below.refl w.heap.size w).alloc (Nat.le_refl _) (.cells #[.int .i64 k, .int .u64 o.g] 34)
  have h1 := h.kept hbe
  have k1 := object_yes _ _ _ _ _ _ _ _ _ _ _ h1 k o hM
  go_enter Tryd.func24, Tryd.ntmps24
  go_upto_region 4 with (go_at_call 41; refine k1.mono ?_; rintro e w1 ⟨rfl, hb⟩)
  have hbw := hbe.trans (hb.mono hbe.size)
  obtain ⟨d0, d1, d2, d3⟩ := (h1.kept hb).cellsO hM
  rw [hz] at d0
  have k2 := drop0 w1 (A k) d0
  clear k1 d0 d1 d2 d3 h1 hbe
  go_wp2_with (go_at_call 47; refine k2.mono ?_; rintro e w' ⟨rfl, hw⟩; rw [hw]; clear hw)
  all_goals go_returns
  all_goals exact ⟨rfl, hbw⟩
theorem hdrop_ok (w : World) (B : Nat) (q : HQ) (room used : Int) (N : Int → Nat) (M : MJ) (ns : Nat) (A K : Nat → Nat) (n : Nat) (h : Hp Yo w B q room used N M ns A K n) (k : Nat) (o : Oj) (hM : M k = some o) (hp : 0 < o.c) :
    Calls Tryd.prog 24 #[.pointer (some ⟨q.b, 0, none⟩), .agg #[.int .i64 k, .int .u64 o.g]] w fun e w' => e = .returned (.tuple #[.int .i64 (o.c - 1), .int .i64 0]) ∧ Hp Yo w' B q room used N (updM M k (some { o with c := o.c - 1 })) ns A K n ∧ Fq Yo B q w w' := by
  have hbe := (Below.refl w.heap.size w).alloc (Nat.le_refl _) (.cells #[.int .i64 k, .int .u64 o.g] 34)
  have h1 := h.kept hbe
  have k1 := object_yes _ _ _ _ _ _ _ _ _ _ _ h1 k o hM
  have hB := h.size
  have hn5 := h.n5
  obtain ⟨-, -, hc0, hcn, -⟩ := h.ow.ob k o hM
  go_enter Tryd.func24, Tryd.ntmps24
  go_upto_region 4 with (go_at_call 41; refine k1.mono ?_; rintro e w1 ⟨rfl, hb⟩)
  have h2 := h1.kept hb
  have hbw := hbe.trans (hb.mono hbe.size)
  obtain ⟨d0, d1, d2, d3⟩ := h2.cellsO hM
  have k2 := drop1 w1 (A k) o.c d0 d2 (by omega) (d3 _)
  obtain ⟨h3, hF⟩ := h2.setO hM (o.c - 1) (by omega)
  clear k1 d0 d1 d2 d3 h1 hbe
  generalize w1.setCell ⟨A k, 0, none⟩ (.int .i64 (o.c - 1)) = W at k2 h3 hF
  go_wp2_with (go_at_call 47; refine k2.mono ?_; rintro e w' ⟨rfl, hw⟩; rw [hw]; clear hw)
  all_goals go_returns
  all_goals exact ⟨rfl, h3, (Fq.of hbw hB).trans hF⟩
theorem hused_any (w : World) (B : Nat) (q : HQ) (room used : Int) (N : Int → Nat) (M : MJ) (ns : Nat) (A K : Nat → Nat) (n : Nat) (h : Hp Yo w B q room used N M ns A K n) :
    Calls Tryd.prog 19 #[.pointer (some ⟨q.b, 0, none⟩)] w fun e w' => e = .returned (.int .i64 used) ∧ w' = w := by
  have hc := h.ow.cells
  have c0 : w.cell? ⟨q.b, 0, none⟩ = some (.pointer (some ⟨q.s, 0, none⟩)) := by rw [cell_of hc]; rfl
  have c2 : w.cell? ⟨q.b, 2, none⟩ = some (.map (some q.m3)) := by rw [cell_of hc]; rfl
  have k1 := hmade_yes w q.b q.m3 c2
  have k2 := used_any w _ _ _ _ _ _ h.sl
  go_enter Tryd.func19, Tryd.ntmps19
  go_wp2_with (first | (go_at_call 31; refine k1.mono ?_; rintro e w' ⟨rfl, hw⟩; rw [hw]; clear hw) | (go_at_call 42; refine k2.mono ?_; rintro e w' ⟨rfl, hw⟩; rw [hw]; clear hw))
  all_goals go_returns
  all_goals exact ⟨rfl, rfl⟩
theorem hroom_any (w : World) (B : Nat) (q : HQ) (room used : Int) (N : Int → Nat) (M : MJ) (ns : Nat) (A K : Nat → Nat) (n : Nat) (h : Hp Yo w B q room used N M ns A K n) :
    Calls Tryd.prog 21 #[.pointer (some ⟨q.b, 0, none⟩)] w fun e w' => e = .returned (.int .i64 room) ∧ w' = w := by
  have hc := h.ow.cells
  have c0 : w.cell? ⟨q.b, 0, none⟩ = some (.pointer (some ⟨q.s, 0, none⟩)) := by rw [cell_of hc]; rfl
  have c2 : w.cell? ⟨q.b, 2, none⟩ = some (.map (some q.m3)) := by rw [cell_of hc]; rfl
  have k1 := hmade_yes w q.b q.m3 c2
  have k2 := room_any w _ _ _ _ _ _ h.sl
  go_enter Tryd.func21, Tryd.ntmps21
  go_wp2_with (first | (go_at_call 31; refine k1.mono ?_; rintro e w' ⟨rfl, hw⟩; rw [hw]; clear hw) | (go_at_call 44; refine k2.mono ?_; rintro e w' ⟨rfl, hw⟩; rw [hw]; clear hw))
  all_goals go_returns
  all_goals exact ⟨rfl, rfl⟩
end Go.Proofs.YtooblonafnlfcaaDoor
