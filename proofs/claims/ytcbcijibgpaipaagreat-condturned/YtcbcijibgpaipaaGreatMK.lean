/- Towards the statements of package bound (layer 5): no step, and no round, loses a number, or is wider than what was there. Towards the statements of package bound (layer 5): what two bounds have in common, as a bound; it has what both have, is within each, and the same either way about. -/
import Derived.Test.YtcbcijibgpaipaaGreatBM
import Derived.Test.YtcbcijibgpaipaaGreatSM
import Derived.Test.YtcbcijibgpaipaaGreatTSoundM
section
namespace Go.Proofs.YtcbcijibgpaipaaGreat
open Go.ChangeShapes Go.WideShapes Go.ChangeAt Go.RowKit
open Tn (iv)
set_option linter.unusedVariables false

/-- x is one of the bound's numbers. -/
structure Has (b : Bd) (x : BitVec 64) : Prop where
  t : x &&& ~~~b.tm = b.tv
  u0 : b.ul ≤ iv x
  u1 : iv x ≤ b.uh
  s0 : b.sl ≤ wrap64 (iv x)
  s1 : wrap64 (iv x) ≤ b.sh
  w0 : b.wl ≤ iv x % 4294967296
  w1 : iv x % 4294967296 ≤ b.wh
  v0 : b.vl ≤ sg (iv x)
  v1 : sg (iv x) ≤ b.vh
theorem hasM_iff (b : Bd) (x : BitVec 64) : hasM b x = true ↔ Has b x := by
  unfold hasM
  simp only [Bool.and_eq_true, beq_iff_eq, decide_eq_true_eq]
  constructor
  · rintro ⟨⟨⟨⟨h1, h2, h3⟩, h4, h5⟩, h6, h7⟩, h8, h9⟩
    exact ⟨h1, h2, h3, h4, h5, h6, h7, h8, h9⟩
  · rintro ⟨h1, h2, h3, h4, h5, h6, h7, h8, h9⟩
    exact ⟨⟨⟨⟨h1, h2, h3⟩, h4, h5⟩, h6, h7⟩, h8, h9⟩
/-- a is no wider than b, in any way. -/
structure Le (a b : Bd) : Prop where
  m : a.tm &&& ~~~b.tm = 0#64
  v : a.tv &&& ~~~b.tm = b.tv
  ul : b.ul ≤ a.ul
  uh : a.uh ≤ b.uh
  sl : b.sl ≤ a.sl
  sh : a.sh ≤ b.sh
  wl : b.wl ≤ a.wl
  wh : a.wh ≤ b.wh
  vl : b.vl ≤ a.vl
  vh : a.vh ≤ b.vh
theorem and_self0 (v m : BitVec 64) (h : v &&& m = 0#64) : v &&& ~~~m = v := by
  ext i hi
  have := congrArg (fun z => z.getLsbD i) h
  simp [hi] at this ⊢
  exact this
theorem Le.refl (b : Bd) (h : b.tv &&& b.tm = 0#64) : Le b b := by
  refine ⟨?_, and_self0 _ _ h, by omega, by omega, by omega, by omega, by omega, by omega, by omega, by omega⟩
  ext i hi
  simp
theorem Le.trans {a b c : Bd} (h : Le a b) (k : Le b c) : Le a c := by
  refine ⟨?_, ?_, by have := h.ul; have := k.ul; omega, by have := h.uh; have := k.uh; omega, by have := h.sl; have := k.sl; omega, by have := h.sh; have := k.sh; omega, by have := h.wl; have := k.wl; omega, by have := h.wh; have := k.wh; omega, by have := h.vl; have := k.vl; omega, by have := h.vh; have := k.vh; omega⟩
  · have h1 := h.m
    have h2 := k.m
    ext i hi
    have e1 := congrArg (fun z => z.getLsbD i) h1
    have e2 := congrArg (fun z => z.getLsbD i) h2
    simp [hi] at e1 e2 ⊢
    intro h3
    exact e2 (e1 h3)
  · have h1 := h.v
    have h2 := k.m
    have h3 := k.v
    rw [← h3, ← h1]
    ext i hi
    have e2 := congrArg (fun z => z.getLsbD i) h2
    simp [hi] at e2 ⊢
    cases h4 : a.tv[i] <;> cases h5 : b.tm[i] <;> cases h6 : c.tm[i] <;> simp_all
section
variable {b c : Bd} {l h : Int} {x : BitVec 64}
theorem mU_le (o : b.tv &&& b.tm = 0#64) (e : mU b l h = some c) : Le c b := by
  unfold mU at e
  split at e
  · cases e
  · cases e
    have r := Le.refl b o
    exact ⟨r.m, r.v, by simp; omega, by simp; omega, by simp, by simp, by simp, by simp, by simp, by simp⟩
theorem mS_le (o : b.tv &&& b.tm = 0#64) (e : mS b l h = some c) : Le c b := by
  unfold mS at e
  split at e
  · cases e
  · cases e
    have r := Le.refl b o
    exact ⟨r.m, r.v, by simp, by simp, by simp; omega, by simp; omega, by simp, by simp, by simp, by simp⟩
theorem mW_le (o : b.tv &&& b.tm = 0#64) (e : mW b l h = some c) : Le c b := by
  unfold mW at e
  split at e
  · cases e
  · cases e
    have r := Le.refl b o
    exact ⟨r.m, r.v, by simp, by simp, by simp, by simp, by simp; omega, by simp; omega, by simp, by simp⟩
theorem mV_le (o : b.tv &&& b.tm = 0#64) (e : mV b l h = some c) : Le c b := by
  unfold mV at e
  split at e
  · cases e
  · cases e
    have r := Le.refl b o
    exact ⟨r.m, r.v, by simp, by simp, by simp, by simp, by simp, by simp, by simp; omega, by simp; omega⟩
theorem mT_le {v m : BitVec 64} (o : b.tv &&& b.tm = 0#64) (o2 : v &&& m = 0#64) (e : mT b v m = some c) : Le c b := by
  unfold mT at e
  split at e
  · rename_i hx
    cases e
    unfold Tn.meetX at hx
    rw [beq_iff_eq] at hx
    refine ⟨?_, ?_, by simp, by simp, by simp, by simp, by simp, by simp, by simp, by simp⟩
    · ext i hi
      simp
      intros
      assumption
    · ext i hi
      have e1 := congrArg (fun z => z.getLsbD i) o
      have e2 := congrArg (fun z => z.getLsbD i) o2
      have e3 := congrArg (fun z => z.getLsbD i) hx
      simp [hi] at e1 e2 e3 ⊢
      cases h1 : b.tv[i] <;> cases h2 : b.tm[i] <;> cases h3 : v[i] <;> cases h4 : m[i] <;> simp_all
  · cases e
theorem mU_keep (k : Has b x) (h0 : l ≤ iv x) (h1 : iv x ≤ h) : ∃ c, mU b l h = some c ∧ Has c x := by
  have := k.u0
  have := k.u1
  refine ⟨_, if_neg (by omega), ?_⟩
  exact ⟨k.t, by simp; omega, by simp; omega, k.s0, k.s1, k.w0, k.w1, k.v0, k.v1⟩
theorem mS_keep (k : Has b x) (h0 : l ≤ wrap64 (iv x)) (h1 : wrap64 (iv x) ≤ h) : ∃ c, mS b l h = some c ∧ Has c x := by
  have := k.s0
  have := k.s1
  refine ⟨_, if_neg (by omega), ?_⟩
  exact ⟨k.t, k.u0, k.u1, by simp; omega, by simp; omega, k.w0, k.w1, k.v0, k.v1⟩
theorem mW_keep (k : Has b x) (h0 : l ≤ iv x % 4294967296) (h1 : iv x % 4294967296 ≤ h) : ∃ c, mW b l h = some c ∧ Has c x := by
  have := k.w0
  have := k.w1
  refine ⟨_, if_neg (by omega), ?_⟩
  exact ⟨k.t, k.u0, k.u1, k.s0, k.s1, by simp; omega, by simp; omega, k.v0, k.v1⟩
theorem mV_keep (k : Has b x) (h0 : l ≤ sg (iv x)) (h1 : sg (iv x) ≤ h) : ∃ c, mV b l h = some c ∧ Has c x := by
  have := k.v0
  have := k.v1
  refine ⟨_, if_neg (by omega), ?_⟩
  exact ⟨k.t, k.u0, k.u1, k.s0, k.s1, k.w0, k.w1, by simp; omega, by simp; omega⟩
theorem mT_keep {v m : BitVec 64} (k : Has b x) (h0 : x &&& ~~~m = v) : ∃ c, mT b v m = some c ∧ Has c x := by
  have hk := k.t
  refine ⟨_, if_pos ?_, ?_⟩
  · unfold Tn.meetX
    rw [beq_iff_eq, ← h0, ← hk]
    ext i hi
    simp
    cases x[i] <;> cases b.tm[i] <;> cases m[i] <;> simp
  · refine ⟨?_, k.u0, k.u1, k.s0, k.s1, k.w0, k.w1, k.v0, k.v1⟩
    show x &&& ~~~(b.tm &&& m) = (b.tv ||| v) &&& ~~~(b.tm &&& m)
    rw [← h0, ← hk]
    ext i hi
    simp
    cases x[i] <;> cases b.tm[i] <;> cases m[i] <;> simp
end
/-- Bits that are all among others' make a number that is no greater. -/
theorem iv_sub_le {a b : BitVec 64} (h : a &&& b = a) : iv a ≤ iv b := by
  unfold Tn.iv
  have : a.toNat = a.toNat &&& b.toNat := by rw [← BitVec.toNat_and, h]
  have := Nat.and_le_right (n := a.toNat) (m := b.toNat)
  omega
theorem top63 (y : BitVec 64) : y.getLsbD 63 = decide (9223372036854775808 ≤ iv y) := by
  have hy := y.isLt
  unfold Tn.iv
  rw [BitVec.getLsbD, Nat.testBit_eq_decide_div_mod_eq]
  simp only [decide_eq_decide]
  constructor <;> intro h <;> omega
theorem top31 (y : BitVec 64) : y.getLsbD 31 = decide (2147483648 ≤ iv y % 4294967296) := by
  have hy := y.isLt
  unfold Tn.iv
  rw [BitVec.getLsbD, Nat.testBit_eq_decide_div_mod_eq]
  simp only [decide_eq_decide]
  constructor <;> intro h <;> omega
/-- With a sign: who has the sign is less; else who has fewer bits. -/
theorem sle64 {a b : BitVec 64} (h : a.getLsbD 63 = b.getLsbD 63 → a &&& b = a) (k : b.getLsbD 63 = true → a.getLsbD 63 = true) : wrap64 (iv a) ≤ wrap64 (iv b) := by
  have ha := inU_iv a
  have hb := inU_iv b
  rw [top63, top63] at h k
  unfold InU at ha hb
  unfold wrap64
  by_cases h1 : 9223372036854775808 ≤ iv a <;> by_cases h2 : 9223372036854775808 ≤ iv b
  · have := iv_sub_le (h (by simp [h1, h2]))
    omega
  · omega
  · have := k (by simp [h2])
    simp at this
    omega
  · have := iv_sub_le (h (by simp [h1, h2]))
    omega
theorem low_mod (x : BitVec 64) : iv (lowT x) = iv x % 4294967296 := by
  unfold lowT Tn.iv
  rw [BitVec.toNat_and]
  have e2 : (1#64 <<< 32 - 1#64).toNat = 2 ^ 32 - 1 := by decide
  rw [e2, Nat.and_two_pow_sub_one_eq_mod]
  omega
theorem sle32 {a b : BitVec 64} (h : a.getLsbD 31 = b.getLsbD 31 → lowT a &&& lowT b = lowT a) (k : b.getLsbD 31 = true → a.getLsbD 31 = true) : sg (iv a) ≤ sg (iv b) := by
  rw [top31, top31] at h k
  have ha := inU_iv a
  have hb := inU_iv b
  unfold InU at ha hb
  unfold sg
  by_cases h1 : 2147483648 ≤ iv a % 4294967296 <;> by_cases h2 : 2147483648 ≤ iv b % 4294967296
  · have := iv_sub_le (h (by simp [h1, h2]))
    rw [low_mod, low_mod] at this
    omega
  · omega
  · have := k (by simp [h2])
    simp at this
    omega
  · have := iv_sub_le (h (by simp [h1, h2]))
    rw [low_mod, low_mod] at this
    omega
theorem lowT_bit (x : BitVec 64) (i : Nat) (hi : i < 64) : (lowT x)[i] = (x[i] && decide (i < 32)) := by
  have e : lowT x = x &&& 4294967295#64 := by unfold lowT; congr 1
  have e2 : (4294967295#64).getLsbD i = decide (i < 32) := by
    have : ∀ k : Fin 64, (4294967295#64).getLsbD k.val = decide (k.val < 32) := by decide
    exact this ⟨i, hi⟩
  rw [e]
  simp only [BitVec.getElem_and]
  rw [← e2]
  rfl
theorem bit_at (c : BitVec 64) (k : Nat) (hc : ∀ j : Fin 64, c.getLsbD j.val = decide (j.val = k)) (i : Nat) (hi : i < 64) : c[i] = decide (i = k) := hc ⟨i, hi⟩
theorem bit_not (c : BitVec 64) (k : Nat) (hc : ∀ j : Fin 64, c.getLsbD j.val = decide (j.val ≠ k)) (i : Nat) (hi : i < 64) : c[i] = decide (i ≠ k) := hc ⟨i, hi⟩

section
variable {b : Bd} {x : BitVec 64}
theorem st1_keep (g : Good b) (k : Has b x) : ∃ c, st1 b = some c ∧ Has c x := by
  have ht := k.t
  refine mU_keep k (iv_sub_le ?_) (iv_sub_le ?_)
  · rw [← ht]
    ext i hi
    simp
    intros
    assumption
  · rw [← ht]
    ext i hi
    simp
    cases x[i] <;> cases b.tm[i] <;> simp
theorem st2_keep (g : Good b) (k : Has b x) : ∃ c, st2 b = some c ∧ Has c x := by
  have ht := k.t
  have h1 := bit_at 9223372036854775808#64 63 (by decide)
  have h2 := bit_not 9223372036854775807#64 63 (by decide)
  have a1 := h1 63 (by omega)
  have a2 := h2 63 (by omega)
  refine mS_keep k (sle64 ?_ ?_) (sle64 ?_ ?_)
  · intro hs
    rw [← ht] at hs ⊢
    ext i hi
    simp at hs
    simp [h1 i hi]
    by_cases e : i = 63
    · subst e
      cases h3 : x[63] <;> cases h4 : b.tm[63] <;> simp_all
    · cases h3 : x[i] <;> cases h4 : b.tm[i] <;> simp_all
  · intro hs
    rw [← ht]
    simp at hs ⊢
    cases h4 : b.tm[63] <;> simp_all
  · intro hs
    rw [← ht] at hs ⊢
    ext i hi
    simp at hs
    simp [h2 i hi]
    by_cases e : i = 63
    · subst e
      cases h3 : x[63] <;> cases h4 : b.tm[63] <;> simp_all
    · cases h3 : x[i] <;> cases h4 : b.tm[i] <;> simp_all
  · intro hs
    rw [← ht] at hs
    simp [a2] at hs
    simp
    cases h3 : x[63] <;> simp_all
theorem st3_keep (g : Good b) (k : Has b x) : ∃ c, st3 b = some c ∧ Has c x := by
  have h := sign_in (x := iv x) ⟨g.u0, by have := g.u1; have := g.u2; omega⟩ ⟨by have := g.u0; have := g.u1; omega, g.u2⟩ k.u0 k.u1
  rw [show decide (b.uh < b.ul) = false by simp; exact g.u1] at h
  simp only [Bool.and_eq_true, decide_eq_true_eq] at h
  exact mS_keep k h.1 h.2
theorem bare_wrap (x : BitVec 64) : IntKind.u64.wrap (wrap64 (iv x)) = iv x := by
  have h := inU_iv x
  unfold InU at h
  rw [IntKind.wrap_u64]
  unfold wrap64
  omega
theorem st4_keep (g : Good b) (k : Has b x) : ∃ c, st4 b = some c ∧ Has c x := by
  have h := bare_in (x := wrap64 (iv x)) ⟨g.s0, by have := g.s1; have := g.s2; omega⟩ ⟨by have := g.s0; have := g.s1; omega, g.s2⟩ k.s0 k.s1
  rw [show decide (b.sh < b.sl) = false by simp; exact g.s1] at h
  simp only [Bool.and_eq_true, decide_eq_true_eq, bare_wrap] at h
  exact mU_keep k h.1 h.2
theorem bu_nat {y : Int} (h : InU y) : ((bu y).toNat : Int) = y := iv_bu h
theorem st5_keep (g : Good b) (k : Has b x) : ∃ c, st5 b = some c ∧ Has c x := by
  have h1 := bu_nat (y := b.ul) ⟨g.u0, by have := g.u1; have := g.u2; omega⟩
  have h2 := bu_nat (y := b.uh) ⟨by have := g.u0; have := g.u1; omega, g.u2⟩
  have hx : ((x.toNat : Nat) : Int) = iv x := rfl
  have := k.u0
  have := k.u1
  exact mT_keep k (eq_of_beq (Tn.range_has (bu b.ul) (bu b.uh) x (by omega) (by omega)))
theorem st6_keep (g : Good b) (k : Has b x) : ∃ c, st6 b = some c ∧ Has c x := by
  have ht := k.t
  refine mW_keep k ?_ ?_
  · rw [← low_mod]
    refine iv_sub_le ?_
    rw [← ht]
    ext i hi
    simp [lowT_bit]
    cases x[i] <;> cases b.tm[i] <;> simp
  · rw [← low_mod]
    refine iv_sub_le ?_
    rw [← ht]
    ext i hi
    simp [lowT_bit]
    cases x[i] <;> cases b.tm[i] <;> simp
theorem st7_keep (g : Good b) (k : Has b x) : ∃ c, st7 b = some c ∧ Has c x := by
  have ht := k.t
  have h1 := bit_at 2147483648#64 31 (by decide)
  have h2 := bit_not 18446744071562067967#64 31 (by decide)
  have a1 := h1 31 (by omega)
  have a2 := h2 31 (by omega)
  have a3 := lowT_bit (x &&& ~~~b.tm) 31 (by omega)
  have a4 := lowT_bit b.tm 31 (by omega)
  refine mV_keep k (sle32 ?_ ?_) (sle32 ?_ ?_)
  · intro hs
    rw [← ht] at hs ⊢
    ext i hi
    simp [a1, a3, a4] at hs
    simp [h1 i hi, lowT_bit]
    by_cases e : i = 31
    · subst e
      cases h3 : x[31] <;> cases h4 : b.tm[31] <;> simp_all
    · cases h3 : x[i] <;> cases h4 : b.tm[i] <;> simp_all
  · intro hs
    rw [← ht]
    simp at hs
    simp [a1, a3, a4]
    cases h4 : b.tm[31] <;> simp_all
  · intro hs
    rw [← ht] at hs ⊢
    ext i hi
    simp [a2, a3, a4] at hs
    simp [h2 i hi, lowT_bit]
    by_cases e : i = 31
    · subst e
      cases h3 : x[31] <;> cases h4 : b.tm[31] <;> simp_all
    · cases h3 : x[i] <;> cases h4 : b.tm[i] <;> simp_all
  · intro hs
    rw [← ht] at hs
    simp [a2, a3, a4] at hs
    simp
    cases h3 : x[31] <;> simp_all
theorem st8_keep (g : Good b) (k : Has b x) : ∃ c, st8 b = some c ∧ Has c x := by
  have := g.w0
  have := g.w2
  have := k.w0
  have := k.w1
  refine mV_keep k ?_ ?_
  · cases e : (b.wl / 2147483648 != b.wh / 2147483648)
    · simp at e
      simp only [eN, Bool.false_eq_true, if_false]
      unfold sg
      omega
    · simp only [eN, if_true]
      unfold sg
      omega
  · cases e : (b.wl / 2147483648 != b.wh / 2147483648)
    · simp at e
      simp only [eN, Bool.false_eq_true, if_false]
      unfold sg
      omega
    · simp only [eN, if_true]
      unfold sg
      omega
theorem st9_keep (g : Good b) (k : Has b x) : ∃ c, st9 b = some c ∧ Has c x := by
  have := g.v0
  have := g.v2
  have h1 := k.v0
  have h2 := k.v1
  unfold sg at h1 h2
  refine mW_keep k ?_ ?_
  · cases e : (decide (b.vl < 0) != decide (b.vh < 0))
    · simp at e
      simp only [eN, Bool.false_eq_true, if_false]
      omega
    · simp only [eN, if_true]
      omega
  · cases e : (decide (b.vl < 0) != decide (b.vh < 0))
    · simp at e
      simp only [eN, Bool.false_eq_true, if_false]
      omega
    · simp only [eN, if_true]
      omega
theorem hi_bit (i : Nat) (hi : i < 64) : (18446744069414584320#64)[i] = decide (32 ≤ i) := by
  have : ∀ k : Fin 64, (18446744069414584320#64).getLsbD k.val = decide (32 ≤ k.val) := by decide
  exact this ⟨i, hi⟩
theorem st10_keep (g : Good b) (k : Has b x) : ∃ c, st10 b = some c ∧ Has c x := by
  have h1 := bu_nat (y := b.wl) ⟨g.w0, by have := g.w1; have := g.w2; omega⟩
  have h2 := bu_nat (y := b.wh) ⟨by have := g.w0; have := g.w1; omega, by have := g.w2; omega⟩
  have hx : (((lowT x).toNat : Nat) : Int) = iv x % 4294967296 := low_mod x
  have := k.w0
  have := k.w1
  have hr := eq_of_beq (Tn.range_has (bu b.wl) (bu b.wh) (lowT x) (by omega) (by omega))
  refine mT_keep k ?_
  rw [← hr]
  ext i hi
  simp [lowT_bit, hi_bit]
  by_cases e : i < 32
  · simp [e, show ¬ 32 ≤ i by omega]
  · simp [e]
    intros
    omega
theorem st11_keep (g : Good b) (k : Has b x) : ∃ c, st11 b = some c ∧ Has c x := by
  have hx := inU_iv x
  unfold InU at hx
  have := g.u0
  have := g.u2
  have h1 := k.u0
  have h2 := k.u1
  unfold st11
  by_cases e : b.ul - b.ul % 4294967296 = b.uh - b.uh % 4294967296
  · rw [if_pos e]
    obtain ⟨c, hc, kc⟩ := mW_keep (l := b.ul % 4294967296) (h := b.uh % 4294967296) k (by omega) (by omega)
    rw [hc]
    have h3 := kc.w0
    have h4 := kc.w1
    exact mU_keep kc (by omega) (by omega)
  · rw [if_neg e]
    exact ⟨b, rfl, k⟩
end
theorem rg_ok (lo hi : BitVec 64) : Tn.rgV lo hi &&& Tn.rgM lo hi = 0#64 := by
  unfold Tn.rgV Tn.rgM
  split
  · simp
  · ext i hi
    simp
theorem rg_low_ok (lo hi : BitVec 64) : lowT (Tn.rgV lo hi) &&& (Tn.rgM lo hi ||| 18446744069414584320#64) = 0#64 := by
  have h := rg_ok lo hi
  ext i hj
  have e := congrArg (fun z => z.getLsbD i) h
  simp [hj] at e
  simp [lowT_bit, hi_bit]
  cases h1 : (Tn.rgV lo hi)[i] <;> cases h2 : (Tn.rgM lo hi)[i] <;> simp_all
theorem st11_le {b c : Bd} (g : Good b) (e : st11 b = some c) : Le c b := by
  unfold st11 at e
  split at e
  · split at e
    · cases e
    · next d hd => exact (mU_le (g.mW hd).t e).trans (mW_le g.t hd)
  · cases e
    exact Le.refl b g.t
theorem round_le {b c : Bd} (g : Good b) (e : roundM b = some c) : Le c b := by
  unfold roundM at e
  simp only [Option.bind_eq_some_iff] at e
  obtain ⟨b10, ⟨b9, ⟨b8, ⟨b7, ⟨b6, ⟨b5, ⟨b4, ⟨b3, ⟨b2, ⟨b1, h1, h2⟩, h3⟩, h4⟩, h5⟩, h6⟩, h7⟩, h8⟩, h9⟩, h10⟩, h11⟩ := e
  have g1 := g.mU h1
  have g2 := g1.mS h2
  have g3 := g2.mS h3
  have g4 := g3.mU h4
  have g5 := g4.mT h5
  have g6 := g5.mW h6
  have g7 := g6.mV h7
  have g8 := g7.mV h8
  have g9 := g8.mW h9
  have g10 := g9.mT h10
  exact (st11_le g10 h11).trans ((mT_le g9.t (rg_low_ok _ _) h10).trans ((mW_le g8.t h9).trans ((mV_le g7.t h8).trans ((mV_le g6.t h7).trans ((mW_le g5.t h6).trans ((mT_le g4.t (rg_ok _ _) h5).trans ((mU_le g3.t h4).trans ((mS_le g2.t h3).trans ((mS_le g1.t h2).trans (mU_le g.t h1))))))))))
theorem round_keep {b : Bd} {x : BitVec 64} (g : Good b) (k : Has b x) : ∃ c, roundM b = some c ∧ Has c x := by
  obtain ⟨b1, h1, k1⟩ := st1_keep g k
  have g1 := g.mU h1
  obtain ⟨b2, h2, k2⟩ := st2_keep g1 k1
  have g2 := g1.mS h2
  obtain ⟨b3, h3, k3⟩ := st3_keep g2 k2
  have g3 := g2.mS h3
  obtain ⟨b4, h4, k4⟩ := st4_keep g3 k3
  have g4 := g3.mU h4
  obtain ⟨b5, h5, k5⟩ := st5_keep g4 k4
  have g5 := g4.mT h5
  obtain ⟨b6, h6, k6⟩ := st6_keep g5 k5
  have g6 := g5.mW h6
  obtain ⟨b7, h7, k7⟩ := st7_keep g6 k6
  have g7 := g6.mV h7
  obtain ⟨b8, h8, k8⟩ := st8_keep g7 k7
  have g8 := g7.mV h8
  obtain ⟨b9, h9, k9⟩ := st9_keep g8 k8
  have g9 := g8.mW h9
  obtain ⟨b10, h10, k10⟩ := st10_keep g9 k9
  have g10 := g9.mT h10
  obtain ⟨c, h11, kc⟩ := st11_keep g10 k10
  refine ⟨c, ?_, kc⟩
  unfold roundM
  rw [h1, Option.bind_some, h2, Option.bind_some, h3, Option.bind_some, h4, Option.bind_some, h5, Option.bind_some, h6, Option.bind_some, h7, Option.bind_some, h8, Option.bind_some, h9, Option.bind_some, h10, Option.bind_some]
  exact h11
/-- What follows from a bound that may be, and has x, has x, is no wider, and may be followed further. -/
theorem sync_keep {b : Bd} {x : BitVec 64} (g : Good b) (k : Has b x) : Has (syncM b) x ∧ Le (syncM b) b ∧ Good (syncM b) := by
  have hb : badM b = false := by
    unfold badM nnB inR
    simp only [decide_eq_false (show ¬ b.uh < b.ul by have := g.u1; omega), decide_eq_false (show ¬ b.wh < b.wl by have := g.w1; omega), decide_eq_false (show ¬ b.sh < b.sl by have := g.s1; omega), decide_eq_false (show ¬ b.vh < b.vl by have := g.v1; omega), g.t, decide_eq_true (show 0 ≤ b.wl from g.w0), decide_eq_true (show b.wl ≤ 4294967295 by have := g.w1; have := g.w2; omega), decide_eq_true (show 0 ≤ b.wh by have := g.w1; have := g.w0; omega), decide_eq_true (show b.wh ≤ 4294967295 from g.w2), decide_eq_true (show -2147483648 ≤ b.vl from g.v0), decide_eq_true (show b.vl ≤ 2147483647 by have := g.v1; have := g.v2; omega), decide_eq_true (show -2147483648 ≤ b.vh by have := g.v1; have := g.v0; omega), decide_eq_true (show b.vh ≤ 2147483647 from g.v2)]
    rfl
  obtain ⟨b1, h1, k1⟩ := round_keep g k
  have g1 := g.round h1
  obtain ⟨b2, h2, k2⟩ := round_keep g1 k1
  have g2 := g1.round h2
  obtain ⟨b3, h3, k3⟩ := round_keep g2 k2
  have g3 := g2.round h3
  have e : syncM b = b3 := by
    unfold syncM
    rw [hb, h1, Option.bind_some, h2, Option.bind_some, h3]
    rfl
  rw [e]
  exact ⟨k3, (round_le g2 h3).trans ((round_le g1 h2).trans (round_le g h1)), g3⟩
theorem inM_of {a b : Bd} (g : Good a) (h : Le a b) : inM a b = true := by
  unfold inM inR
  have := h.ul; have := h.uh; have := h.sl; have := h.sh; have := h.wl; have := h.wh; have := h.vl; have := h.vh
  have := g.u1; have := g.s1; have := g.w1; have := g.v1
  rw [h.m, h.v]
  simp
  omega
theorem nnB_of {a : Bd} (g : Good a) : nnB a = false := by
  unfold nnB
  have := g.u1; have := g.s1; have := g.w1; have := g.v1
  simp
  omega
end Go.Proofs.YtcbcijibgpaipaaGreat
end
section
namespace Go.Proofs.YtcbcijibgpaipaaGreat
open Go.ChangeShapes Go.WideShapes Go.ChangeAt Go.RowKit
open Tn (iv)
set_option linter.unusedVariables false
set_option linter.unusedSimpArgs false

/-- What both know, way by way, ahead of telling each other. -/
def meetP (a b : Bd) : Bd := ⟨Tn.mtV a.tv a.tm b.tv b.tm, Tn.mtM a.tv a.tm b.tv b.tm, eN (decide (min a.uh b.uh < max a.ul b.ul)) 1 (max a.ul b.ul), eN (decide (min a.uh b.uh < max a.ul b.ul)) 0 (min a.uh b.uh), eN (decide (min a.sh b.sh < max a.sl b.sl)) 1 (max a.sl b.sl), eN (decide (min a.sh b.sh < max a.sl b.sl)) 0 (min a.sh b.sh), eN (decide (min a.wh b.wh < max a.wl b.wl)) 1 (max a.wl b.wl), eN (decide (min a.wh b.wh < max a.wl b.wl)) 0 (min a.wh b.wh), eN (decide (min a.vh b.vh < max a.vl b.vl)) 1 (max a.vl b.vl), eN (decide (min a.vh b.vh < max a.vl b.vl)) 0 (min a.vh b.vh)⟩
theorem meetX_comm (av am bv bm : BitVec 64) : Tn.meetX av am bv bm = Tn.meetX bv bm av am := by
  unfold Tn.meetX
  rw [BitVec.xor_comm, BitVec.or_comm]
theorem meetP_comm (a b : Bd) : meetP a b = meetP b a := by
  unfold meetP Tn.mtV Tn.mtM
  rw [meetX_comm a.tv, BitVec.or_comm a.tv, BitVec.and_comm a.tm, Int.min_comm a.uh, Int.max_comm a.ul, Int.min_comm a.sh, Int.max_comm a.sl, Int.min_comm a.wh, Int.max_comm a.wl, Int.min_comm a.vh, Int.max_comm a.vl]
section
variable {a b : Bd} {x : BitVec 64}
theorem meetX_of (ka : Has a x) (kb : Has b x) : Tn.meetX a.tv a.tm b.tv b.tm = true := by
  unfold Tn.meetX
  rw [beq_iff_eq, ← ka.t, ← kb.t]
  ext i hi
  simp [hi]
  cases x[i] <;> cases a.tm[i] <;> cases b.tm[i] <;> simp
theorem mm_not {l h l' h' z : Int} (a : l ≤ z) (b : z ≤ h) (c : l' ≤ z) (d : z ≤ h') : decide (min h h' < max l l') = false := decide_eq_false (by omega)
theorem mm_lo {l l' z : Int} (a : l ≤ z) (c : l' ≤ z) : max l l' ≤ z := by omega
theorem mm_hi {h h' z : Int} (a : z ≤ h) (c : z ≤ h') : z ≤ min h h' := by omega
theorem mm_le {l h l' h' z : Int} (a : l ≤ z) (b : z ≤ h) (c : l' ≤ z) (d : z ≤ h') : max l l' ≤ min h h' := by omega
theorem mm_min {l l' m : Int} (a : m ≤ l) : m ≤ max l l' := by omega
theorem mm_max {h h' m : Int} (a : h ≤ m) : min h h' ≤ m := by omega
/-- Of two bounds that have a number in common: what they have in common, written out. -/
theorem meetP_of (ka : Has a x) (kb : Has b x) : meetP a b = ⟨(a.tv ||| b.tv) &&& ~~~(a.tm &&& b.tm), a.tm &&& b.tm, max a.ul b.ul, min a.uh b.uh, max a.sl b.sl, min a.sh b.sh, max a.wl b.wl, min a.wh b.wh, max a.vl b.vl, min a.vh b.vh⟩ := by
  unfold meetP Tn.mtV Tn.mtM
  rw [meetX_of ka kb, mm_not ka.u0 ka.u1 kb.u0 kb.u1, mm_not ka.s0 ka.s1 kb.s0 kb.s1, mm_not ka.w0 ka.w1 kb.w0 kb.w1, mm_not ka.v0 ka.v1 kb.v0 kb.v1]
  rfl
theorem meetP_has (ka : Has a x) (kb : Has b x) : Has (meetP a b) x := by
  rw [meetP_of ka kb]
  refine ⟨?_, mm_lo ka.u0 kb.u0, mm_hi ka.u1 kb.u1, mm_lo ka.s0 kb.s0, mm_hi ka.s1 kb.s1, mm_lo ka.w0 kb.w0, mm_hi ka.w1 kb.w1, mm_lo ka.v0 kb.v0, mm_hi ka.v1 kb.v1⟩
  show x &&& ~~~(a.tm &&& b.tm) = (a.tv ||| b.tv) &&& ~~~(a.tm &&& b.tm)
  rw [← ka.t, ← kb.t]
  ext i hi
  simp [hi]
  cases x[i] <;> cases a.tm[i] <;> cases b.tm[i] <;> simp
theorem meetP_good (ga : Good a) (gb : Good b) (ka : Has a x) (kb : Has b x) : Good (meetP a b) := by
  rw [meetP_of ka kb]
  refine ⟨?_, mm_min ga.u0, mm_le ka.u0 ka.u1 kb.u0 kb.u1, mm_max ga.u2, mm_min ga.s0, mm_le ka.s0 ka.s1 kb.s0 kb.s1, mm_max ga.s2, mm_min ga.w0, mm_le ka.w0 ka.w1 kb.w0 kb.w1, mm_max ga.w2, mm_min ga.v0, mm_le ka.v0 ka.v1 kb.v0 kb.v1, mm_max ga.v2⟩
  show ((a.tv ||| b.tv) &&& ~~~(a.tm &&& b.tm)) &&& (a.tm &&& b.tm) = 0#64
  generalize a.tm &&& b.tm = z
  ext i hi
  simp
theorem meetP_le (ka : Has a x) (kb : Has b x) : Le (meetP a b) a := by
  rw [meetP_of ka kb]
  refine ⟨?_, ?_, mm_min (Int.le_refl _), mm_max (Int.le_refl _), mm_min (Int.le_refl _), mm_max (Int.le_refl _), mm_min (Int.le_refl _), mm_max (Int.le_refl _), mm_min (Int.le_refl _), mm_max (Int.le_refl _)⟩
  · show (a.tm &&& b.tm) &&& ~~~a.tm = 0#64
    ext i hi
    simp [hi]
    intro h _
    exact h
  · show ((a.tv ||| b.tv) &&& ~~~(a.tm &&& b.tm)) &&& ~~~a.tm = a.tv
    rw [← ka.t, ← kb.t]
    ext i hi
    simp [hi]
    cases x[i] <;> cases a.tm[i] <;> cases b.tm[i] <;> simp
theorem meetP_le' (ka : Has a x) (kb : Has b x) : Le (meetP a b) b := by
  rw [meetP_comm]
  exact meetP_le kb ka
/-- What two bounds have in common. -/
theorem meet_keep (ga : Good a) (gb : Good b) (ka : Has a x) (kb : Has b x) : Has (syncM (meetP a b)) x ∧ Le (syncM (meetP a b)) a ∧ Le (syncM (meetP a b)) b ∧ Good (syncM (meetP a b)) := by
  obtain ⟨h1, h2, h3⟩ := sync_keep (meetP_good ga gb ka kb) (meetP_has ka kb)
  exact ⟨h1, h2.trans (meetP_le ka kb), h2.trans (meetP_le' ka kb), h3⟩
theorem iv_range (x : BitVec 64) : 0 ≤ iv x ∧ iv x ≤ 18446744073709551615 := by
  unfold Tn.iv
  have := x.isLt
  omega
end
end Go.Proofs.YtcbcijibgpaipaaGreat
end
