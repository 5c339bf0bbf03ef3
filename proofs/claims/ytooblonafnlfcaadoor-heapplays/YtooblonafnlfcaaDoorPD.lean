/- Towards the statements of package heap (layer 14): Read, Write; New. -/
import Derived.Test.YtooblonafnlfcaaDoorPC
namespace Go.Proofs.YtooblonafnlfcaaDoor
open Go.ChangeShapes Go.WideShapes Go.ChangeAt Go.RowKit
set_option linter.unusedVariables false
set_option linter.unusedSimpArgs false
set_option maxRecDepth 20000
variable {Yo : Nat → Prop}
theorem read_no (w : World) (B : Nat) (q : HQ) (room used : Int) (N : Int → Nat) (M : MJ) (ns : Nat) (A K : Nat → Nat) (n : Nat) (h : Hp Yo w B q room used N M ns A K n) (s : Int) (g : Nat) (hL : liveB M s g = false) (a m : Int) :
    Calls Tryd.prog 26 #[.pointer (some ⟨q.b, 0, none⟩), .agg #[.int .i64 s, .int .u64 g], .int .i64 a, .int .i64 m] w fun e w' => e = .returned (.tuple #[.string ⟨#[]⟩, .int .i64 130]) ∧ Below w.heap.size w w' := by
  have hbe := (Below.refl w.heap.size w).alloc (Nat.le_refl _) (.cells #[.int .i64 s, .int .u64 g] 34)
  have k1 := object_no _ _ _ _ _ _ _ _ _ _ _ (h.kept hbe) s g hL
  go_enter Tryd.func26, Tryd.ntmps26
  go_wp2_with (go_at_call 41; refine k1.mono ?_; rintro e w1 ⟨rfl, hb⟩)
  all_goals go_returns
  all_goals exact ⟨rfl, hbe.trans (hb.mono hbe.size)⟩
theorem write_no (w : World) (B : Nat) (q : HQ) (room used : Int) (N : Int → Nat) (M : MJ) (ns : Nat) (A K : Nat → Nat) (n : Nat) (h : Hp Yo w B q room used N M ns A K n) (s : Int) (g : Nat) (hL : liveB M s g = false) (a : Int) (t : ByteArray) :
    Calls Tryd.prog 27 #[.pointer (some ⟨q.b, 0, none⟩), .agg #[.int .i64 s, .int .u64 g], .int .i64 a, .string t] w fun e w' => e = .returned (.int .i64 130) ∧ Below w.heap.size w w' := by
  have hbe := (Below.refl w.heap.size w).alloc (Nat.le_refl _) (.cells #[.int .i64 s, .int .u64 g] 34)
  have k1 := object_no _ _ _ _ _ _ _ _ _ _ _ (h.kept hbe) s g hL
  go_enter Tryd.func27, Tryd.ntmps27
  go_wp2_with (go_at_call 41; refine k1.mono ?_; rintro e w1 ⟨rfl, hb⟩)
  all_goals go_returns
  all_goals exact ⟨rfl, hbe.trans (hb.mono hbe.size)⟩
theorem tOf_at {M : MJ} {K : Nat → Nat} {k : Nat} {o : Oj} (h : M k = some o) : tOf M K k = some (K k, o.bs) := by simp [tOf, h]
theorem Hp.key {w : World} {B : Nat} {q : HQ} {room used : Int} {N : Int → Nat} {M : MJ} {ns : Nat} {A K : Nat → Nat} {n : Nat} (h : Hp Yo w B q room used N M ns A K n) {k : Nat} {o : Oj} (hM : M k = some o) :
    k < 64 * ns ∧ I64 (k : Int) ∧ 1 ≤ o.bs.length ∧ o.bs.length ≤ 128 ∧ ∀ x ∈ o.bs, 0 ≤ x ∧ x ≤ 255 := by
  have hT := tOf_at (K := K) hM
  have hk : k < 64 * ns := by
    by_cases e : k < 64 * ns
    · exact e
    · rw [h.sl.out k (by omega)] at hT; cases hT
  obtain ⟨-, -, b1, b2, b3⟩ := h.sl.th k _ _ hT
  have := h.nn
  have := h.n5
  exact ⟨hk, by unfold I64; omega, b1, b2, b3⟩
/-- What part of an object tells: 0, or 120. -/
def inE (bs : List Int) (a m : Int) : Int := if 0 ≤ a ∧ 0 ≤ m ∧ a + m ≤ bs.length then 0 else 120
def inS (bs : List Int) (a m : Int) : ByteArray := if 0 ≤ a ∧ 0 ≤ m ∧ a + m ≤ bs.length then strOfNums ((bs.drop a.toNat).take m.toNat) else ⟨#[]⟩
theorem sread_any (w : World) (B b : Nat) (room used : Int) (T : Nat → Th) (n : Nat) (h : SlF Yo w B b room used T n) (k : Nat) (hk : I64 k) (hh : Nat) (bs : List Int) (hT : T k = some (hh, bs)) (a m : Int) (ha : I64 a) (hm : I64 m) :
    Calls Tryd.prog 52 #[.pointer (some ⟨b, 0, none⟩), .int .i64 k, .int .i64 a, .int .i64 m] w fun e w' => e = .returned (.tuple #[.string (inS bs a m), .int .i64 (inE bs a m)]) ∧ w' = w := by
  have hT2 : getT T k = some (hh, bs) := by rw [getT_nat, hT]
  by_cases e : 0 ≤ a ∧ 0 ≤ m ∧ a + m ≤ (bs.length : Int)
  · obtain ⟨i, rfl⟩ : ∃ i : Nat, a = i := ⟨a.toNat, by omega⟩
    obtain ⟨j, rfl⟩ : ∃ j : Nat, m = j := ⟨m.toNat, by omega⟩
    rw [inS, inE, if_pos e, if_pos e]
    exact read_ok w B b room used T n h k hk hh bs hT2 i j (by omega)
  · rw [inS, inE, if_neg e, if_neg e]
    exact read_bad w B b room used T n h k hk a m ha hm 120 (by rw [hT2]; simp only [partE]; rw [if_neg e]) (by decide)
set_option maxHeartbeats 1000000 in
theorem read_at (w : World) (B : Nat) (q : HQ) (room used : Int) (N : Int → Nat) (M : MJ) (ns : Nat) (A K : Nat → Nat) (n : Nat) (h : Hp Yo w B q room used N M ns A K n) (k : Nat) (o : Oj) (hM : M k = some o) (a m : Int) (ha : I64 a) (hm : I64 m) :
    Calls Tryd.prog 26 #[.pointer (some ⟨q.b, 0, none⟩), .agg #[.int .i64 k, .int .u64 o.g], .int .i64 a, .int .i64 m] w fun e w' => e = .returned (.tuple #[.string (inS o.bs a m), .int .i64 (inE o.bs a m)]) ∧ Below w.heap.size w w' := by
  have hbe := (Below.refl w.heap.size w).alloc (Nat.le_refl _) (.cells #[.int .i64 k, .int .u64 o.g] 34)
  have hz := heap_alloc_new w (.cells #[.int .i64 k, .int .u64 o.g] 34)
  have h1 := h.kept hbe
  have k1 := object_yes _ _ _ _ _ _ _ _ _ _ _ h1 k o hM
  go_enter Tryd.func26, Tryd.ntmps26
  go_upto_region 4 with (go_at_call 41; refine k1.mono ?_; rintro e w1 ⟨rfl, hb⟩)
  have h2 := h1.kept hb
  have hc := h2.ow.cells
  have hz2 := (hb.block _ (heap_lt hz)).trans hz
  have hbw := hbe.trans (hb.mono hbe.size)
  have kR := fun p : BlBy w1 => sread_any p.wo _ _ _ _ _ _ (h2.kept p.bl).sl k (h.key hM).2.1 _ _ (tOf_at hM) a m ha hm
  have c0 := fun p : BlBy w1 => (show p.wo.cell? ⟨q.b, 0, none⟩ = some (.pointer (some ⟨q.s, 0, none⟩)) by rw [cell_of ((p.bl.block _ (heap_lt hc)).trans hc)]; rfl)
  have z0 := fun p : BlBy w1 => (show p.wo.cell? ⟨w.heap.size, 0, none⟩ = some (.int .i64 k) by rw [cell_of ((p.bl.block _ (heap_lt hz2)).trans hz2)]; rfl)
  have hne : Nonempty (BlBy w1) := ⟨⟨w1, Below.refl _ w1⟩⟩
  refine wp_region_bl (by kernel_rfl) (by kernel_rfl) ?_
  repeat (first
    | go_big_quiet_skip
    | (go_big_quiet_want; go_big_quiet_op; first
      | go_big_quiet_on
      | (apply Exists.intro
         refine ⟨fun p => ?_, ?_⟩
         · (go_at_call 52; exact calls_bl0 (kR p))
         go_big_quiet_on)))
  refine wpQuiet_nil ?_
  intro wq hw'
  obtain ⟨⟨wq2, hq⟩, e⟩ := hw'
  simp only at e
  subst e
  go_wp2
  all_goals go_returns
  all_goals exact ⟨rfl, hbw.trans (hq.mono hbw.size)⟩
/-- What Read tells. -/
def rdE (M : MJ) (s : Int) (g : Nat) (a m : Int) : Int := if liveB M s g then inE (((getM M s).map (·.bs)).getD []) a m else 130
def rdS (M : MJ) (s : Int) (g : Nat) (a m : Int) : ByteArray := if liveB M s g then inS (((getM M s).map (·.bs)).getD []) a m else ⟨#[]⟩
theorem hread_any (w : World) (B : Nat) (q : HQ) (room used : Int) (N : Int → Nat) (M : MJ) (ns : Nat) (A K : Nat → Nat) (n : Nat) (h : Hp Yo w B q room used N M ns A K n) (s : Int) (g : Nat) (a m : Int) (ha : I64 a) (hm : I64 m) :
    Calls Tryd.prog 26 #[.pointer (some ⟨q.b, 0, none⟩), .agg #[.int .i64 s, .int .u64 g], .int .i64 a, .int .i64 m] w fun e w' => e = .returned (.tuple #[.string (rdS M s g a m), .int .i64 (rdE M s g a m)]) ∧ Below w.heap.size w w' := by
  cases hL : liveB M s g with
  | false =>
    rw [rdS, rdE, hL]
    exact read_no w B q room used N M ns A K n h s g hL a m
  | true =>
    obtain ⟨k, o, rfl, hM, rfl⟩ := live_at hL
    rw [rdS, rdE, hL, getM_nat, hM]
    exact read_at w B q room used N M ns A K n h k o hM a m ha hm
theorem tOf_updB (M : MJ) (K : Nat → Nat) (k : Nat) (o' : Oj) : tOf (updM M k (some o')) K = upd (tOf M K) k (some (K k, o'.bs)) := by
  funext j
  unfold tOf
  by_cases ej : j = k
  · subst ej; rw [updM_self, upd_self]; rfl
  · rw [updM_ne _ _ ej, upd_ne _ _ ej]
theorem Ho.setB {w : World} {B : Nat} {q : HQ} {M : MJ} {A : Nat → Nat} {n : Nat} (h : Ho Yo w B q M A n) {k : Nat} {o : Oj} (hM : M k = some o) (b : List Int) : Ho Yo w B q (updM M k (some { o with bs := b })) A n := by
  have hx : ∀ i x, updM M k (some { o with bs := b }) i = some x → ∃ y, M i = some y ∧ y.c = x.c ∧ y.k = x.k := fun i x e => by
    by_cases ej : i = k
    · subst ej; rw [updM_self] at e; cases e; exact ⟨o, hM, rfl, rfl⟩
    · rw [updM_ne _ _ ej] at e; exact ⟨x, e, rfl, rfl⟩
  refine ⟨h.bB, h.cells, h.b3, ?_, fun j x e => ?_, fun i j x y e1 e2 e3 => ?_⟩
  · rw [pOf_upd hM]; exact h.im
  · obtain ⟨y, hy, hc, hk⟩ := hx j x e
    have := h.ob j y hy
    rw [show ojV x = ojV y by simp [ojV, hc, hk], ← hc]
    exact this
  · obtain ⟨x', hx', -⟩ := hx i x e1
    obtain ⟨y', hy', -⟩ := hx j y e2
    exact h.ap i j x' y' hx' hy' e3
theorem clsO_some (h : Nat) (bs : List Int) : clsO (some (h, bs)) = clsM bs.length := rfl
theorem Hp.setB {w w' : World} {B : Nat} {q : HQ} {room used : Int} {N : Int → Nat} {M : MJ} {ns : Nat} {A K : Nat → Nat} {n : Nat} (h : Hp Yo w B q room used N M ns A K n) {k : Nat} {o : Oj} (hM : M k = some o) (b : List Int) (hl : b.length = o.bs.length)
    (hS : SlF Yo w' B q.s room used (upd (tOf M K) k (some (K k, b))) ns) (hF : FrF Yo B q.s w w') : Hp Yo w' B q room used N (updM M k (some { o with bs := b })) ns A K n ∧ Fq Yo B q w w' := by
  obtain ⟨cs, hcs⟩ := h.sl.cellsS
  refine ⟨⟨(h.ow.fr hF hcs).setB hM b, ?_, ?_, ?_, h.ne1, h.ne2, h.nn, h.n5, h.yo⟩, Fq.ofS hF⟩
  · rw [tOf_updB]; exact hS
  · rw [lOf_upd (o' := { o with bs := b }) hM rfl]; exact tb_fr h.tb hF hcs
  · rw [tOf_updB]
    have := h.us.upd k (some (K k, b))
    rw [tOf_at hM, clsO_some, clsO_some, hl, show used + clsM o.bs.length - clsM o.bs.length = used by omega] at this
    exact this
set_option maxHeartbeats 1000000 in
theorem write_out (w : World) (B : Nat) (q : HQ) (room used : Int) (N : Int → Nat) (M : MJ) (ns : Nat) (A K : Nat → Nat) (n : Nat) (h : Hp Yo w B q room used N M ns A K n) (k : Nat) (o : Oj) (hM : M k = some o) (a : Int) (t : ByteArray) (ha : I64 a) (ht : t.size ≤ maxLen) (hout : ¬ (0 ≤ a ∧ a + t.size ≤ o.bs.length)) :
    Calls Tryd.prog 27 #[.pointer (some ⟨q.b, 0, none⟩), .agg #[.int .i64 k, .int .u64 o.g], .int .i64 a, .string t] w fun e w' => e = .returned (.int .i64 120) ∧ Below w.heap.size w w' := by
  have hbe := (Below.refl w.heap.size w).alloc (Nat.le_refl _) (.cells #[.int .i64 k, .int .u64 o.g] 34)
  have hz := heap_alloc_new w (.cells #[.int .i64 k, .int .u64 o.g] 34)
  have h1 := h.kept hbe
  have k1 := object_yes _ _ _ _ _ _ _ _ _ _ _ h1 k o hM
  go_enter Tryd.func27, Tryd.ntmps27
  go_upto_region 4 with (go_at_call 41; refine k1.mono ?_; rintro e w1 ⟨rfl, hb⟩)
  have h2 := h1.kept hb
  have hc := h2.ow.cells
  have hz2 := (hb.block _ (heap_lt hz)).trans hz
  have hbw := hbe.trans (hb.mono hbe.size)
  have kR := fun p : BlBy w1 => write_bad p.wo _ _ _ _ _ _ (h2.kept p.bl).sl k (h.key hM).2.1 a t ha ht 120 (by rw [getT_nat, tOf_at hM]; simp only [partE]; rw [if_neg (by omega)]) (by decide)
  have c0 := fun p : BlBy w1 => (show p.wo.cell? ⟨q.b, 0, none⟩ = some (.pointer (some ⟨q.s, 0, none⟩)) by rw [cell_of ((p.bl.block _ (heap_lt hc)).trans hc)]; rfl)
  have z0 := fun p : BlBy w1 => (show p.wo.cell? ⟨w.heap.size, 0, none⟩ = some (.int .i64 k) by rw [cell_of ((p.bl.block _ (heap_lt hz2)).trans hz2)]; rfl)
  have hne : Nonempty (BlBy w1) := ⟨⟨w1, Below.refl _ w1⟩⟩
  refine wp_region_bl (by kernel_rfl) (by kernel_rfl) ?_
  repeat (first
    | go_big_quiet_skip
    | (go_big_quiet_want; go_big_quiet_op; first
      | go_big_quiet_on
      | (apply Exists.intro
         refine ⟨fun p => ?_, ?_⟩
         · (go_at_call 53; exact calls_bl0 (kR p))
         go_big_quiet_on)))
  refine wpQuiet_nil ?_
  intro wq hw'
  obtain ⟨⟨wq2, hq⟩, e⟩ := hw'
  simp only at e
  subst e
  go_wp2
  all_goals go_returns
  all_goals exact ⟨rfl, hbw.trans (hq.mono hbw.size)⟩
set_option maxHeartbeats 1000000 in
theorem write_in (w : World) (B : Nat) (q : HQ) (room used : Int) (N : Int → Nat) (M : MJ) (ns : Nat) (A K : Nat → Nat) (n : Nat) (h : Hp Yo w B q room used N M ns A K n) (k : Nat) (o : Oj) (hM : M k = some o) (a : Nat) (t : ByteArray) (hin : a + t.size ≤ o.bs.length) :
    Calls Tryd.prog 27 #[.pointer (some ⟨q.b, 0, none⟩), .agg #[.int .i64 k, .int .u64 o.g], .int .i64 a, .string t] w fun e w' => e = .returned (.int .i64 0) ∧ Hp Yo w' B q room used N (updM M k (some { o with bs := wr o.bs a t })) ns A K n ∧ Fq Yo B q w w' := by
  have hbe := (Below.refl w.heap.size w).alloc (Nat.le_refl _) (.cells #[.int .i64 k, .int .u64 o.g] 34)
  have hz := heap_alloc_new w (.cells #[.int .i64 k, .int .u64 o.g] 34)
  have h1 := h.kept hbe
  have hB := h.size
  have k1 := object_yes _ _ _ _ _ _ _ _ _ _ _ h1 k o hM
  go_enter Tryd.func27, Tryd.ntmps27
  go_upto_region 4 with (go_at_call 41; refine k1.mono ?_; rintro e w1 ⟨rfl, hb⟩)
  have h2 := h1.kept hb
  have hc := h2.ow.cells
  have hz2 := (hb.block _ (heap_lt hz)).trans hz
  have hbw := hbe.trans (hb.mono hbe.size)
  have c0 : w1.cell? ⟨q.b, 0, none⟩ = some (.pointer (some ⟨q.s, 0, none⟩)) := by rw [cell_of hc]; rfl
  have z0 : w1.cell? ⟨w.heap.size, 0, none⟩ = some (.int .i64 k) := by rw [cell_of hz2]; rfl
  have k2 := write_ok w1.drew _ _ _ _ _ _ (h2.sl.kept (Below.refl _ _).drew) k (h.key hM).2.1 _ _ (tOf_at hM) a t hin
  clear k1 h1
  go_region_with (go_at_call 53; go_loud (refine k2.mono ?_; rintro e w2 ⟨rfl, hS, hF⟩))
  go_wp2
  all_goals go_returns
  all_goals (obtain ⟨h3, hF3⟩ := (h2.kept (Below.refl _ _).drew).setB hM (wr o.bs a t) (wr_len _ _ _ hin) hS hF; exact ⟨rfl, h3, (Fq.of hbw.drew hB).trans hF3⟩)
end Go.Proofs.YtooblonafnlfcaaDoor
