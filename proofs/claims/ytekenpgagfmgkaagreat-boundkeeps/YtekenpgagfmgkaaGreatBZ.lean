/- Towards the statements of package bound (layer 5): what two bounds have in common, as a bound; it has what both have, is within each, and the same either way about. -/
import Derived.Test.YtekenpgagfmgkaaGreatBW
namespace Go.Proofs.YtekenpgagfmgkaaGreat
open Go.ChangeShapes Go.WideShapes Go.ChangeAt Go.RowKit
open Tn (iv)
set_option linter.unusedVariables false
set_option linter.unusedSimpArgs false

/-- What both know, way by way, ahead of telling each other. -/
def meetP (a b : Bd) : Bd := ⟨Tn.mtV a.tv a.tm b.tv b.tm, Tn.mtM a.tv a.tm b.tv b.tm, eN (decide (min a.uh b.uh < max a.ul b.ul)) 1 (max a.ul b.ul), eN (decide (min a.uh b.uh < max a.ul b.ul)) 0 (min a.uh b.uh), eN (decide (min a.sh b.sh < max a.sl b.sl)) 1 (max a.sl b.sl), eN (decide (min a.sh b.sh < max a.sl b.sl)) 0 (min a.sh b.sh), eN (decide (min a.wh b.wh < max a.wl b.wl)) 1 (max a.wl b.wl), eN (decide (min a.wh b.wh < max a.wl b.wl)) 0 (min a.wh b.wh), eN (decide (min a.vh b.vh < max a.vl b.vl)) 1 (max a.vl b.vl), eN (decide (min a.vh b.vh < max a.vl b.vl)) 0 (min a.vh b.vh)⟩
theorem meetX_comm (av am bv bm : BitVec 64) : Tn.meetX av am bv bm = Tn.meetX bv bm av am := by
  unfold Tn.meetX
  rw [BitVec.xor_comm, BitVec.or_comm]
theorem meetP_comm (a b : Bd) : meetP a b = meetP b a := by
  unfold meetP Tn.mtV Tn.mtM
  rw [meetX_comm a.tv, BitVec.or_comm a.tv, BitVec.and_comm a.tm, Int.min_comm a.uh, Int.max_comm a.ul, Int.min_comm a.sh, Int.max_comm a.sl, Int.min_comm a.wh, Int.max_comm a.wl, Int.min_comm a.vh, Int.max_comm a.vl]
section
variable {a b : Bd} {x : BitVec 64}
theorem meetX_of (ka : Has a x) (kb : Has b x) : Tn.meetX a.tv a.tm b.tv b.tm = true := by
  unfold Tn.meetX
  rw [beq_iff_eq, ← ka.t, ← kb.t]
  ext i hi
  simp [hi]
  cases x[i] <;> cases a.tm[i] <;> cases b.tm[i] <;> simp
theorem mm_not {l h l' h' z : Int} (a : l ≤ z) (b : z ≤ h) (c : l' ≤ z) (d : z ≤ h') : decide (min h h' < max l l') = false := decide_eq_false (by omega)
theorem mm_lo {l l' z : Int} (a : l ≤ z) (c : l' ≤ z) : max l l' ≤ z := by omega
theorem mm_hi {h h' z : Int} (a : z ≤ h) (c : z ≤ h') : z ≤ min h h' := by omega
theorem mm_le {l h l' h' z : Int} (a : l ≤ z) (b : z ≤ h) (c : l' ≤ z) (d : z ≤ h') : max l l' ≤ min h h' := by omega
theorem mm_min {l l' m : Int} (a : m ≤ l) : m ≤ max l l' := by omega
theorem mm_max {h h' m : Int} (a : h ≤ m) : min h h' ≤ m := by omega
/-- Of two bounds that have a number in common: what they have in common, written out. -/
theorem meetP_of (ka : Has a x) (kb : Has b x) : meetP a b = ⟨(a.tv ||| b.tv) &&& ~~~(a.tm &&& b.tm), a.tm &&& b.tm, max a.ul b.ul, min a.uh b.uh, max a.sl b.sl, min a.sh b.sh, max a.wl b.wl, min a.wh b.wh, max a.vl b.vl, min a.vh b.vh⟩ := by
  unfold meetP Tn.mtV Tn.mtM
  rw [meetX_of ka kb, mm_not ka.u0 ka.u1 kb.u0 kb.u1, mm_not ka.s0 ka.s1 kb.s0 kb.s1, mm_not ka.w0 ka.w1 kb.w0 kb.w1, mm_not ka.v0 ka.v1 kb.v0 kb.v1]
  rfl
theorem meetP_has (ka : Has a x) (kb : Has b x) : Has (meetP a b) x := by
  rw [meetP_of ka kb]
  refine ⟨?_, mm_lo ka.u0 kb.u0, mm_hi ka.u1 kb.u1, mm_lo ka.s0 kb.s0, mm_hi ka.s1 kb.s1, mm_lo ka.w0 kb.w0, mm_hi ka.w1 kb.w1, mm_lo ka.v0 kb.v0, mm_hi ka.v1 kb.v1⟩
  show x &&& ~~~(a.tm &&& b.tm) = (a.tv ||| b.tv) &&& ~~~(a.tm &&& b.tm)
  rw [← ka.t, ← kb.t]
  ext i hi
  simp [hi]
  cases x[i] <;> cases a.tm[i] <;> cases b.tm[i] <;> simp
theorem meetP_good (ga : Good a) (gb : Good b) (ka : Has a x) (kb : Has b x) : Good (meetP a b) := by
  rw [meetP_of ka kb]
  refine ⟨?_, mm_min ga.u0, mm_le ka.u0 ka.u1 kb.u0 kb.u1, mm_max ga.u2, mm_min ga.s0, mm_le ka.s0 ka.s1 kb.s0 kb.s1, mm_max ga.s2, mm_min ga.w0, mm_le ka.w0 ka.w1 kb.w0 kb.w1, mm_max ga.w2, mm_min ga.v0, mm_le ka.v0 ka.v1 kb.v0 kb.v1, mm_max ga.v2⟩
  show ((a.tv ||| b.tv) &&& ~~~(a.tm &&& b.tm)) &&& (a.tm &&& b.tm) = 0#64
  generalize a.tm &&& b.tm = z
  ext i hi
  simp
theorem meetP_le (ka : Has a x) (kb : Has b x) : Le (meetP a b) a := by
  rw [meetP_of ka kb]
  refine ⟨?_, ?_, mm_min (Int.le_refl _), mm_max (Int.le_refl _), mm_min (Int.le_refl _), mm_max (Int.le_refl _), mm_min (Int.le_refl _), mm_max (Int.le_refl _), mm_min (Int.le_refl _), mm_max (Int.le_refl _)⟩
  · show (a.tm &&& b.tm) &&& ~~~a.tm = 0#64
    ext i hi
    simp [hi]
    intro h _
    exact h
  · show ((a.tv ||| b.tv) &&& ~~~(a.tm &&& b.tm)) &&& ~~~a.tm = a.tv
    rw [← ka.t, ← kb.t]
    ext i hi
    simp [hi]
    cases x[i] <;> cases a.tm[i] <;> cases b.tm[i] <;> simp
theorem meetP_le' (ka : Has a x) (kb : Has b x) : Le (meetP a b) b := by
  rw [meetP_comm]
  exact meetP_le kb ka
/-- What two bounds have in common. -/
theorem meet_keep (ga : Good a) (gb : Good b) (ka : Has a x) (kb : Has b x) : Has (syncM (meetP a b)) x ∧ Le (syncM (meetP a b)) a ∧ Le (syncM (meetP a b)) b ∧ Good (syncM (meetP a b)) := by
  obtain ⟨h1, h2, h3⟩ := sync_keep (meetP_good ga gb ka kb) (meetP_has ka kb)
  exact ⟨h1, h2.trans (meetP_le ka kb), h2.trans (meetP_le' ka kb), h3⟩
theorem has_le {y : BitVec 64} (h : Le a b) (k : hasM a y = true) : hasM b y = true := (hasM_iff _ _).2 (h.has ((hasM_iff _ _).1 k))
/-- Just the same numbers as before. -/
theorem sync_same {y : BitVec 64} (g : Good a) (k : Has a x) : hasM (syncM a) y = hasM a y := by
  obtain ⟨_, hl, _⟩ := sync_keep g k
  cases h : hasM a y with
  | true => exact (hasM_iff _ _).2 (sync_keep g ((hasM_iff _ _).1 h)).1
  | false =>
    cases h' : hasM (syncM a) y with
    | false => rfl
    | true => rw [has_le hl h'] at h; cases h
theorem meet_same {y : BitVec 64} (ga : Good a) (gb : Good b) (ka : Has a x) (kb : Has b x) : hasM (syncM (meetP a b)) y = (hasM a y && hasM b y) := by
  obtain ⟨_, hl, hl', _⟩ := meet_keep ga gb ka kb
  cases h : hasM (syncM (meetP a b)) y with
  | true => rw [has_le hl h, has_le hl' h]; rfl
  | false =>
    cases h1 : hasM a y with
    | false => rfl
    | true =>
      cases h2 : hasM b y with
      | false => rfl
      | true =>
        have := (hasM_iff _ _).2 (meet_keep ga gb ((hasM_iff _ _).1 h1) ((hasM_iff _ _).1 h2)).1
        rw [this] at h
        cases h
theorem le_of_in (ha : Good a) (h : inM a b = true) : Le a b := by
  unfold inM inR at h
  rw [nnB_of ha] at h
  have h1 := ha.u1; have h2 := ha.w1
  simp only [Bool.false_or, Bool.and_eq_true, Bool.or_eq_true, decide_eq_true_eq, beq_iff_eq] at h
  obtain ⟨⟨⟨⟨⟨m, v⟩, u⟩, s⟩, w⟩, k⟩ := h
  have u' := u.resolve_left (by omega)
  have w' := w.resolve_left (by omega)
  exact ⟨m, v, u'.1.1, u'.2.2, s.1.1, s.2.2, w'.1.1, w'.2.2, k.1.1, k.2.2⟩
theorem in_trans {c : Bd} (ga : Good a) (gb : Good b) (h : inM a b = true) (k : inM b c = true) : inM a c = true := inM_of ga ((le_of_in ga h).trans (le_of_in gb k))
theorem iv_range (x : BitVec 64) : 0 ≤ iv x ∧ iv x ≤ 18446744073709551615 := by
  unfold Tn.iv
  have := x.isLt
  omega
theorem const_le (k : Has a x) : Le (constM x) a := by
  refine ⟨?_, k.t, k.u0, k.u1, k.s0, k.s1, k.w0, k.w1, k.v0, k.v1⟩
  simp [constM]
end
end Go.Proofs.YtekenpgagfmgkaaGreat
