/- Towards the statements of package bound (layer 5): tnum's contracts in span's words; a block of many cells; a world in which one block alone was written; numbers of 64 bits, halves, and their signs. -/
import Derived.Test.YtcbcijibgpaipaaGreatMC
import Derived.Test.YtcbcijibgpaipaaGreatMB
namespace Go.Proofs.YtcbcijibgpaipaaGreat
open Go.ChangeShapes Go.WideShapes Go.ChangeAt Go.RowKit
open Tn (iv)
set_option linter.unusedVariables false

theorem gr_of {w w' : World} (h : Tn.Gr w w') : Gr w w' := ⟨h.below, h.grown⟩
theorem cv {P : Program} {f : FuncId} {args : Array Value} {w : World} {v : Ending} (h : Calls P f args w fun e w' => e = v ∧ Tn.Gr w w') : Calls P f args w fun e w' => e = v ∧ Gr w w' :=
  h.mono fun _ _ k => ⟨k.1, gr_of k.2⟩

/-- Block b holds these cells, of the type t. -/
def AtA (w : World) (b : Nat) (c : Array Value) (t : TypeId) : Prop := w.heap[b]? = some (.cells c t)
section
variable {w w' : World} {b : Nat} {cs : Array Value} {t : TypeId}
theorem AtA.cell (h : AtA w b cs t) (o : Nat) : w.cell? ⟨b, o, none⟩ = cs[o]? := by simp [World.cell?, show w.heap[b]? = _ from h]
theorem AtA.f (h : AtA w b cs t) (o : Nat) : w.frozen? ⟨b, o, none⟩ = false := by simp [World.frozen?, show w.heap[b]? = _ from h]
theorem AtA.lt (h : AtA w b cs t) : b < w.heap.size := (Array.getElem?_eq_some_iff.1 h).1
theorem AtA.gr (h : AtA w b cs t) (g : Gr w w') : AtA w' b cs t := (g.below.block b h.lt).trans h
theorem AtA.alloc (h : AtA w b cs t) (o : Obj) : AtA (w.alloc o) b cs t := (Below.heap_alloc w o b h.lt).trans h
theorem AtA.drew (h : AtA w b cs t) : AtA w.drew b cs t := h
theorem AtA.newb (w : World) {b : Nat} (hb : b = w.heap.size) (c : Array Value) (t : TypeId) : AtA (w.alloc (.cells c t)) b c t := by
  subst hb
  show (w.heap.push _)[w.heap.size]? = _
  simp
theorem AtA.other (h : AtA w b cs t) {b' o : Nat} (hb : b ≠ b') (u : Value) : AtA (w.setCell ⟨b', o, none⟩ u) b cs t := (Below.heap_setCell w ⟨b', o, none⟩ u b hb).trans h
theorem AtA.st (h : AtA w b cs t) (o : Nat) (u : Value) : AtA (w.setCell ⟨b, o, none⟩ u) b (cs.setIfInBounds o u) t := by
  obtain ⟨hlt, hk⟩ := Array.getElem?_eq_some_iff.1 h
  show (w.heap.modify b _)[b]? = _
  rw [Array.getElem?_eq_getElem (by rw [Array.size_modify]; exact hlt), Array.getElem_modify_self, hk]
  rfl
end

theorem cst {w : World} {a p : Addr} {v u : Value} (hp : p.block ≠ a.block) (h : w.cell? a = some v) : (w.setCell p u).cell? a = some v := by
  rw [World.cell?_setCell_far _ _ _ _ hp, h]

/-- A world in which block p alone may have been written. -/
structure GrX (p : Nat) (w w' : World) : Prop where
  size : w.heap.size ≤ w'.heap.size
  block : ∀ q, q < w.heap.size → q ≠ p → w'.heap[q]? = w.heap[q]?
  gr : ∀ w0, Gr w0 w → w0.heap.size ≤ p → Gr w0 w'
theorem GrX.refl (p : Nat) (w : World) : GrX p w w := ⟨Nat.le_refl _, fun _ _ _ => rfl, fun _ h _ => h⟩
theorem GrX.trans {p : Nat} {a b c : World} (h : GrX p a b) (k : GrX p b c) : GrX p a c :=
  ⟨Nat.le_trans h.size k.size, fun q h1 h2 => (k.block q (Nat.lt_of_lt_of_le h1 h.size) h2).trans (h.block q h1 h2), fun w0 g hp => k.gr w0 (h.gr w0 g hp) hp⟩
theorem GrX.of {p : Nat} {w w' : World} (g : Gr w w') : GrX p w w' :=
  ⟨g.below.size, fun q h _ => g.below.block q h, fun w0 h _ => h.trans g⟩
theorem GrX.set {p : Nat} {w : World} (o : Nat) (u : Value) : GrX p w (w.setCell ⟨p, o, none⟩ u) :=
  ⟨by simp [World.setCell], fun q _ hq => Below.heap_setCell w ⟨p, o, none⟩ u q hq, fun w0 g hp => g.set hp u⟩
theorem GrX.fresh {p : Nat} {w W : World} (h : GrX p w W) {b o : Nat} (hb : w.heap.size ≤ b) (u : Value) : GrX p w (W.setCell ⟨b, o, none⟩ u) :=
  ⟨by simp only [World.setCell, Array.size_modify]; exact h.size, fun q h1 h2 => (Below.heap_setCell W ⟨b, o, none⟩ u q (show q ≠ b by omega)).trans (h.block q h1 h2), fun w0 g hp => (h.gr w0 g hp).set (Nat.le_trans g.below.size hb) u⟩
theorem AtA.grx {w w' : World} {b p : Nat} {c : Array Value} {t : TypeId} (h : AtA w b c t) (g : GrX p w w') (hb : b ≠ p) : AtA w' b c t := (g.block b h.lt hb).trans h

/-- A number of 64 bits as bits. -/
def bu (x : Int) : BitVec 64 := BitVec.ofInt 64 x
theorem iv_bu {x : Int} (h : InU x) : iv (bu x) = x := by
  unfold InU at h
  unfold Tn.iv bu
  rw [BitVec.toNat_ofInt]
  omega
theorem inU_iv (x : BitVec 64) : InU (iv x) := by
  have := x.isLt
  unfold InU Tn.iv
  omega
/-- A number's lower half with a sign. -/
def sg (x : Int) : Int := (x + 2147483648) % 4294967296 - 2147483648
theorem i32_sg (x : Int) : IntKind.i32.wrap x = sg x := by
  unfold sg
  simp [IntKind.wrap, IntKind.bits, IntKind.signed]
  omega
theorem w64_sg (x : Int) : wrap64 (sg x) = sg x := by
  unfold sg wrap64
  omega
theorem and_low (x : Int) (h : InU x) : bits .and .u64 x 4294967295 = x % 4294967296 := by
  have e : bits .and .u64 (iv (bu x)) (iv 4294967295#64) = iv (bu x &&& 4294967295#64) := Tn.iv_and _ _
  rw [iv_bu h] at e
  refine e.trans ?_
  unfold Tn.iv
  rw [BitVec.toNat_and]
  have e2 : (4294967295#64).toNat = 2 ^ 32 - 1 := by decide
  rw [e2, Nat.and_two_pow_sub_one_eq_mod]
  have e3 : ((bu x).toNat : Int) = x := iv_bu h
  omega
theorem andNot_sub (y M : BitVec 64) : y &&& ~~~M = y - (y &&& M) := by
  have h : y = (y &&& ~~~M) + (y &&& M) := by
    rw [BitVec.add_eq_or_of_and_eq_zero]
    · ext i hi
      simp
      cases y[i] <;> simp
    · ext i hi
      simp
      intros
      simp_all
  rw [BitVec.eq_sub_iff_add_eq]
  exact h.symm
theorem and_high (x : Int) (h : InU x) : bits .and .u64 x 18446744069414584320 = x - x % 4294967296 := by
  have e : bits .and .u64 (iv (bu x)) (iv 18446744069414584320#64) = iv (bu x &&& 18446744069414584320#64) := Tn.iv_and _ _
  rw [iv_bu h] at e
  refine e.trans ?_
  have e3 : ((bu x).toNat : Int) = x := iv_bu h
  have e4 : bu x &&& 18446744069414584320#64 = bu x - (bu x &&& 4294967295#64) := by
    rw [show (18446744069414584320#64) = ~~~(4294967295#64) by decide]
    exact andNot_sub _ _
  rw [e4]
  have e5 : iv (bu x &&& 4294967295#64) = x % 4294967296 := by
    unfold Tn.iv
    rw [BitVec.toNat_and]
    have e2 : (4294967295#64).toNat = 2 ^ 32 - 1 := by decide
    rw [e2, Nat.and_two_pow_sub_one_eq_mod]
    omega
  have e6 := Tn.iv_sub (bu x) (bu x &&& 4294967295#64)
  rw [iv_bu h, e5] at e6
  rw [← e6, wrap_inU]
  unfold InU at *
  omega
theorem or_high (x y : Int) (h : InU x) (hy : 0 ≤ y ∧ y < 4294967296) : bits .or .u64 (x - x % 4294967296) y = x - x % 4294967296 + y := by
  unfold InU at h
  have h1 : InU (x - x % 4294967296) := by unfold InU; omega
  have h2 : InU y := by unfold InU; omega
  have e : bits .or .u64 (iv (bu (x - x % 4294967296))) (iv (bu y)) = iv (bu (x - x % 4294967296) ||| bu y) := Tn.iv_or _ _
  rw [iv_bu h1, iv_bu h2] at e
  refine e.trans ?_
  have e1 : bu (x - x % 4294967296) &&& bu y = 0#64 := by
    apply BitVec.eq_of_toNat_eq
    rw [BitVec.toNat_and]
    have a1 : ((bu (x - x % 4294967296)).toNat : Int) = x - x % 4294967296 := iv_bu h1
    have a2 : ((bu y).toNat : Int) = y := iv_bu h2
    obtain ⟨k, hk⟩ : ∃ k, (bu (x - x % 4294967296)).toNat = 2 ^ 32 * k := ⟨(bu (x - x % 4294967296)).toNat / 2 ^ 32, by omega⟩
    have hy2 : (bu y).toNat < 2 ^ 32 := by omega
    rw [hk]
    apply Nat.eq_of_testBit_eq
    intro i
    rw [Nat.testBit_and, Nat.testBit_two_pow_mul]
    by_cases hi : i < 32
    · simp [Nat.not_le.2 hi]
    · rw [Nat.testBit_lt_two_pow (Nat.lt_of_lt_of_le hy2 (Nat.pow_le_pow_right (by omega) (by omega)))]
      simp
  rw [← BitVec.add_eq_or_of_and_eq_zero _ _ e1]
  have e6 := Tn.iv_add (bu (x - x % 4294967296)) (bu y)
  rw [iv_bu h1, iv_bu h2] at e6
  rw [← e6, wrap_inU]
  unfold InU
  omega
end Go.Proofs.YtcbcijibgpaipaaGreat
