/- Towards the statements of package heap (layer 14): Hold, Drop, Free, Write, whatever they are asked. -/
import Derived.Test.YtooblonafnlfcaaDoorPG
namespace Go.Proofs.YtooblonafnlfcaaDoor
open Go.ChangeShapes Go.WideShapes Go.ChangeAt Go.RowKit
set_option linter.unusedVariables false
set_option linter.unusedSimpArgs false
set_option maxRecDepth 20000
variable {Yo : Nat → Prop}
/-- What becomes of one object. -/
def onM (M : MJ) (s : Int) (g : Nat) (f : Oj → Option Oj) : MJ := if liveB M s g then updM M s.toNat ((getM M s).bind f) else M
theorem on_live {M : MJ} {k : Nat} {o : Oj} (h : M k = some o) (f : Oj → Option Oj) : onM M k o.g f = updM M k (f o) := by
  have hl : liveB M k o.g = true := live_of h
  rw [onM, if_pos hl, getM_nat, h]
  rfl
theorem on_dead {M : MJ} {s : Int} {g : Nat} (h : liveB M s g = false) (f : Oj → Option Oj) : onM M s g f = M := by
  rw [onM, if_neg (by rw [h]; decide)]
def hoF (o : Oj) : Option Oj := some { o with c := o.c + 1 }
def drF (o : Oj) : Option Oj := some (if o.c = 0 then o else { o with c := o.c - 1 })
def frF (o : Oj) : Option Oj := if o.c = 0 then none else some o
def wtF (a : Int) (t : ByteArray) (o : Oj) : Option Oj := some (if 0 ≤ a ∧ a + t.size ≤ o.bs.length then { o with bs := wr o.bs a.toNat t } else o)
theorem upd_id {M : MJ} {k : Nat} {o : Oj} (h : M k = some o) : updM M k (some o) = M := by
  funext j
  by_cases e : j = k
  · subst e; rw [updM_self, h]
  · rw [updM_ne _ _ e]
def hoV (M : MJ) (s : Int) (g : Nat) : Int := if liveB M s g then ctM M s g + 1 else 0
def hoE (M : MJ) (s : Int) (g : Nat) : Int := if liveB M s g then 0 else 130
def drV (M : MJ) (s : Int) (g : Nat) : Int := if liveB M s g then (if ctM M s g = 0 then 0 else ctM M s g - 1) else 0
def drE' (M : MJ) (s : Int) (g : Nat) : Int := if liveB M s g then (if ctM M s g = 0 then 3 else 0) else 130
def frE (M : MJ) (s : Int) (g : Nat) : Int := if liveB M s g then (if ctM M s g = 0 then 0 else 3) else 130
def bsM (M : MJ) (s : Int) : List Int := ((getM M s).map (·.bs)).getD []
def frU (M : MJ) (s : Int) (g : Nat) (used : Int) : Int := if liveB M s g then (if ctM M s g = 0 then used - clsM (bsM M s).length else used) else used
def wtE (M : MJ) (s : Int) (g : Nat) (a : Int) (t : ByteArray) : Int := if liveB M s g then (if 0 ≤ a ∧ a + t.size ≤ (bsM M s).length then 0 else 120) else 130
theorem ct_live {M : MJ} {k : Nat} {o : Oj} (h : M k = some o) : ctM M k o.g = o.c := by
  have hl : liveB M k o.g = true := live_of h
  simp [ctM, hl, getM_nat, h]
theorem bs_live {M : MJ} {k : Nat} {o : Oj} (h : M k = some o) : bsM M k = o.bs := by simp [bsM, getM_nat, h]
theorem ho_any (w : World) (B : Nat) (q : HQ) (room used : Int) (N : Int → Nat) (M : MJ) (ns : Nat) (A K : Nat → Nat) (n : Nat) (h : Hp Yo w B q room used N M ns A K n) (s : Int) (g : Nat) (hn : ctM M s g + 1 ≤ n) :
    Calls Tryd.prog 23 #[.pointer (some ⟨q.b, 0, none⟩), .agg #[.int .i64 s, .int .u64 g]] w fun e w' => e = .returned (.tuple #[.int .i64 (hoV M s g), .int .i64 (hoE M s g)]) ∧ Hp Yo w' B q room used N (onM M s g hoF) ns A K n ∧ Fq Yo B q w w' := by
  cases hL : liveB M s g with
  | false =>
    rw [hoV, hoE, on_dead hL, hL]
    exact (hold_no w B q room used N M ns A K n h s g hL).mono fun e w' ⟨a, b⟩ => ⟨a, h.kept b, Fq.of b h.size⟩
  | true =>
    obtain ⟨k, o, rfl, hM, rfl⟩ := live_at hL
    rw [hoV, hoE, on_live hM, hL]
    rw [ct_live hM] at hn ⊢
    exact hold_ok w B q room used N M ns A K n h k o hM hn
theorem dr_any (w : World) (B : Nat) (q : HQ) (room used : Int) (N : Int → Nat) (M : MJ) (ns : Nat) (A K : Nat → Nat) (n : Nat) (h : Hp Yo w B q room used N M ns A K n) (s : Int) (g : Nat) :
    Calls Tryd.prog 24 #[.pointer (some ⟨q.b, 0, none⟩), .agg #[.int .i64 s, .int .u64 g]] w fun e w' => e = .returned (.tuple #[.int .i64 (drV M s g), .int .i64 (drE' M s g)]) ∧ Hp Yo w' B q room used N (onM M s g drF) ns A K n ∧ Fq Yo B q w w' := by
  cases hL : liveB M s g with
  | false =>
    rw [drV, drE', on_dead hL, hL]
    exact (hdrop_no w B q room used N M ns A K n h s g hL).mono fun e w' ⟨a, b⟩ => ⟨a, h.kept b, Fq.of b h.size⟩
  | true =>
    obtain ⟨k, o, rfl, hM, rfl⟩ := live_at hL
    have hc := (h.ow.ob k o hM).2.2.1
    rw [drV, drE', on_live hM, hL, ct_live hM, drF]
    by_cases hz : o.c = 0
    · simp only [if_pos hz, if_true, upd_id hM]
      exact (hdrop_zero w B q room used N M ns A K n h k o hM hz).mono fun e w' ⟨a, b⟩ => ⟨a, h.kept b, Fq.of b h.size⟩
    · simp only [if_neg hz, if_true]
      exact hdrop_ok w B q room used N M ns A K n h k o hM (by omega)
theorem fr_any (w : World) (B : Nat) (q : HQ) (room used : Int) (N : Int → Nat) (M : MJ) (ns : Nat) (A K : Nat → Nat) (n : Nat) (h : Hp Yo w B q room used N M ns A K n) (hT : Tab w) (h0 : 0 < B) (s : Int) (g : Nat) :
    Calls Tryd.prog 25 #[.pointer (some ⟨q.b, 0, none⟩), .agg #[.int .i64 s, .int .u64 g]] w fun e w' => e = .returned (.int .i64 (frE M s g)) ∧ Hp Yo w' B q room (frU M s g used) N (onM M s g frF) ns A K n ∧ Fq Yo B q w w' := by
  cases hL : liveB M s g with
  | false =>
    rw [frE, frU, on_dead hL, hL]
    exact (free_no w B q room used N M ns A K n h s g hL).mono fun e w' ⟨a, b⟩ => ⟨a, h.kept b, Fq.of b h.size⟩
  | true =>
    obtain ⟨k, o, rfl, hM, rfl⟩ := live_at hL
    have hc := (h.ow.ob k o hM).2.2.1
    rw [frE, frU, on_live hM, hL, ct_live hM, bs_live hM, frF]
    by_cases hz : o.c = 0
    · simp only [if_pos hz, if_true]
      exact free_ok w B q room used N M ns A K n h hT h0 k o hM hz
    · simp only [if_neg hz, if_true, upd_id hM]
      exact (free_held w B q room used N M ns A K n h k o hM (by omega)).mono fun e w' ⟨a, b⟩ => ⟨a, h.kept b, Fq.of b h.size⟩
theorem wt_any (w : World) (B : Nat) (q : HQ) (room used : Int) (N : Int → Nat) (M : MJ) (ns : Nat) (A K : Nat → Nat) (n : Nat) (h : Hp Yo w B q room used N M ns A K n) (s : Int) (g : Nat) (a : Int) (t : ByteArray) (ha : I64 a) (ht : t.size ≤ maxLen) :
    Calls Tryd.prog 27 #[.pointer (some ⟨q.b, 0, none⟩), .agg #[.int .i64 s, .int .u64 g], .int .i64 a, .string t] w fun e w' => e = .returned (.int .i64 (wtE M s g a t)) ∧ Hp Yo w' B q room used N (onM M s g (wtF a t)) ns A K n ∧ Fq Yo B q w w' := by
  cases hL : liveB M s g with
  | false =>
    rw [wtE, on_dead hL, hL]
    exact (write_no w B q room used N M ns A K n h s g hL a t).mono fun e w' ⟨a, b⟩ => ⟨a, h.kept b, Fq.of b h.size⟩
  | true =>
    obtain ⟨k, o, rfl, hM, rfl⟩ := live_at hL
    rw [wtE, on_live hM, hL, bs_live hM, wtF]
    by_cases hz : 0 ≤ a ∧ a + t.size ≤ o.bs.length
    · simp only [if_pos hz, if_true]
      obtain ⟨i, rfl⟩ : ∃ i : Nat, a = i := ⟨a.toNat, by omega⟩
      exact write_in w B q room used N M ns A K n h k o hM i t (by omega)
    · simp only [if_neg hz, if_true, upd_id hM]
      exact (write_out w B q room used N M ns A K n h k o hM a t ha ht hz).mono fun e w' ⟨a, b⟩ => ⟨a, h.kept b, Fq.of b h.size⟩
end Go.Proofs.YtooblonafnlfcaaDoor
