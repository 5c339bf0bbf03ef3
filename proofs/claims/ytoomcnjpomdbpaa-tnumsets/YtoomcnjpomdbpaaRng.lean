/- Towards the statements of package tnum (layer 3): the document's Range, from the highest bit down, for every two numbers. -/
import Derived.Test.YtoomcnjpomdbpaaAsks
namespace Go.Proofs.Ytoomcnjpomdbpaa
open Go.ChangeShapes Go.WideShapes Go.ChangeAt Go.RowKit
set_option linter.unusedVariables false
set_option maxRecDepth 20000

def topE (lo hi : BitVec 64) (i : Nat) : Bool := lo >>> i == hi >>> i
def rngF (lo hi : BitVec 64) (i : Nat) : Nat := if topE lo hi i then (if lo.getLsbD i then 1 else 0) else 2
theorem top_step (lo hi : BitVec 64) (i : Nat) : topE lo hi i = (topE lo hi (i + 1) && (lo.getLsbD i == hi.getLsbD i)) := by
  have up : ∀ x y : BitVec 64, ∀ i, (x >>> i = y >>> i) ↔ ∀ j, i ≤ j → x.getLsbD j = y.getLsbD j := by
    intro x y i
    constructor
    · intro h j hj
      have e : (x >>> i).getLsbD (j - i) = (y >>> i).getLsbD (j - i) := by rw [h]
      rw [BitVec.getLsbD_ushiftRight, BitVec.getLsbD_ushiftRight, show i + (j - i) = j by omega] at e
      exact e
    · intro h
      apply BitVec.eq_of_getLsbD_eq
      intro j hj
      rw [BitVec.getLsbD_ushiftRight, BitVec.getLsbD_ushiftRight]
      exact h _ (by omega)
  rw [Bool.eq_iff_iff, Bool.and_eq_true, topE, topE, beq_iff_eq, beq_iff_eq, beq_iff_eq, up, up]
  constructor
  · intro h
    exact ⟨fun j hj => h j (by omega), h i (by omega)⟩
  · rintro ⟨h1, h2⟩ j hj
    rcases (by omega : j = i ∨ i + 1 ≤ j) with rfl | h
    · exact h2
    · exact h1 j h
theorem top_64 (lo hi : BitVec 64) : topE lo hi (64 - 0) = true := by
  rw [topE, BitVec.ushiftRight_eq_zero (by omega), BitVec.ushiftRight_eq_zero (by omega)]; rfl
/-- Put together from the highest place down: d places done. -/
def accD (f : Nat → Bool) : Nat → BitVec 64
  | 0 => 0#64
  | d + 1 => if f (63 - d) then accD f d ||| (1#64 <<< (63 - d)) else accD f d
theorem accD_get (f : Nat → Bool) (i : Nat) (hi : i < 64) : ∀ d, d ≤ 64 → (accD f d).getLsbD i = (decide (64 ≤ i + d) && f i)
  | 0, _ => by simp [accD]; omega
  | d + 1, hd => by
    have ih := accD_get f i hi d (by omega)
    unfold accD
    by_cases e : i = 63 - d
    · have h1 : decide (64 ≤ i + (d + 1)) = true := by simp; omega
      rw [h1]
      subst e
      cases hf : f (63 - d)
      · simp [ih, hf]
      · rw [if_pos rfl, BitVec.getLsbD_or, ih, Tn.one_shl]
        simp [hi]
    · have h1 : decide (64 ≤ i + (d + 1)) = decide (64 ≤ i + d) := by
        by_cases h : 64 ≤ i + d
        · rw [decide_eq_true h, decide_eq_true (by omega)]
        · rw [decide_eq_false h, decide_eq_false (by omega)]
      rw [h1]
      split
      · rw [BitVec.getLsbD_or, ih, Tn.one_shl]; simp [e]
      · exact ih
theorem accD_all (f : Nat → Bool) : accD f 64 = Tn.accB f 64 := by
  apply BitVec.eq_of_getLsbD_eq
  intro i hi
  rw [accD_get f i hi 64 (by omega), Tn.acc_get f i hi 64]
  have h1 : decide (64 ≤ i + 64) = true := by simp
  have h2 : decide (i < 64) = true := by simp; omega
  rw [h1, h2]
theorem accD_put (F : Nat → Nat) (d j z : Nat) (hj : 63 - d = j) (h : F j = z) : accD (fun i => F i == 1) (d + 1) = putV (accD (fun i => F i == 1) d) j z ∧ accD (fun i => F i == 2) (d + 1) = putM (accD (fun i => F i == 2) d) j z := by
  subst hj
  subst h
  constructor
  · show (if F (63 - d) == 1 then _ else _) = (if F (63 - d) = 1 then _ else _)
    by_cases e : F (63 - d) = 1
    · rw [if_pos e, if_pos (beq_iff_eq.2 e)]
    · rw [if_neg e, if_neg (fun h => e (beq_iff_eq.1 h))]
  · show (if F (63 - d) == 2 then _ else _) = (if F (63 - d) = 2 then _ else _)
    by_cases e : F (63 - d) = 2
    · rw [if_pos e, if_pos (beq_iff_eq.2 e)]
    · rw [if_neg e, if_neg (fun h => e (beq_iff_eq.1 h))]
theorem rrange_all (lo hi : BitVec 64) (h : decide (hi < lo) = true) (w : World) : Calls Try.prog 19 #[.int .u64 (iv lo), .int .u64 (iv hi)] w fun e w' => e = .returned (.agg #[.int .u64 (iv 0#64), .int .u64 (iv (1#64 <<< 64 - 1#64))]) ∧ Gr w w' := by
  have r0 := @iv_lt
  go_enter Try.func19, Try.ntmps19
  go_wp2
  go_returns
  exact ⟨rfl, by go_grown, by go_grown⟩
set_option maxHeartbeats 4000000 in
theorem rrange_in (lo hi : BitVec 64) (h : decide (hi < lo) = false) (w : World) : Calls Try.prog 19 #[.int .u64 (iv lo), .int .u64 (iv hi)] w fun e w' => e = .returned (.agg #[.int .u64 (iv (Tn.mkV fun i => rngF lo hi i)), .int .u64 (iv (Tn.mkM fun i => rngF lo hi i))]) ∧ Gr w w' := by
  unfold Tn.mkV Tn.mkM
  rw [← accD_all, ← accD_all]
  replace h : decide (iv hi < iv lo) = false := by rw [iv_lt]; exact h
  go_enter Try.func19, Try.ntmps19
  go_wp2_with fail
  go_loopw [7, 6] (fun i b wr => ∃ d : Nat, d ≤ 64 ∧ i = .int .i64 (63 - (d : Int)) ∧ b = .bool (topE lo hi (64 - d)) ∧ At wr w.heap.size 0#64 0#64 ∧ At wr (w.heap.size + 1) (accD (fun i => rngF lo hi i == 1) d) (accD (fun i => rngF lo hi i == 2) d) ∧ Gr w wr) (fun i _ _ => (intOf i + 1).toNat)
  case atStart => exact ⟨0, by omega, rfl, by rw [top_64], ((At.newz _ (by simp)).alloc _), (At.newz _ (by simp)), by go_grown, by go_grown⟩
  case round =>
    obtain ⟨d, hd, rfl, rfl, h0, h1, hg⟩ := hrel
    have H0 : Hid (At wr w.heap.size 0#64 0#64) := h0
    have H1 : Hid (At wr (w.heap.size + 1) (accD (fun i => rngF lo hi i == 1) d) (accD (fun i => rngF lo hi i == 2) d)) := h1
    have HG : Hid (Gr w wr) := hg
    clear h0 h1 hg
    by_cases hlt : d < 64
    · obtain ⟨j, hj⟩ : ∃ j : Nat, 63 - d = j := ⟨_, rfl⟩
      have hj64 : j < 64 := by omega
      have hji : (63 : Int) - (d : Int) = (j : Int) := by omega
      have HT : Hid _ := top_step lo hi j
      have HJ : Hid (63 - d = j) := hj
      have hjd : 64 - d = j + 1 := by omega
      rw [hji, hjd]
      have r0 := @iv_shr
      have ql := bit_lit lo j
      have qh := bit_lit hi j
      have hdd : decide ((0 : Int) ≤ (j : Int)) = true := by simp
      have HD : Hid (63 - (d : Int) = j ∧ d < 64) := ⟨hji, hlt⟩
      have HX : Hid (64 - d = j + 1) := hjd
      clear hj hji hjd hlt hd
      have hx := H1.out.gr (Gr.refl wr)
      replace c10 := hx.c0
      replace c11 := hx.c1
      replace f10 := hx.f0 0
      replace f11 := hx.f0 1
      clear hx
      cases ht : topE lo hi (j + 1)
      · cases hl : lo.getLsbD j
        · cases hh : hi.getLsbD j
          · have HN : Hid (topE lo hi j = false) := by
              have := HT.out; rw [ht, hl, hh] at this; exact this
            have HE : Hid (rngF lo hi j = 2) := by rw [rngF, HN.out]; rfl
            rw [hl] at ql
            rw [hh] at qh
            replace ql : bits .and .u64 (iv (lo >>> j)) 1 = 0 := ql
            replace qh : bits .and .u64 (iv (hi >>> j)) 1 = 0 := qh
            clear hl hh ht HT
            go_wp2_with (first
              | (go_at_call 44; refine (put_gr2 _ _ hj64 _).mono ?_; rintro e w' ⟨rfl, hq⟩; have hx := H1.out.gr hq; replace c10 := hx.c0; replace c11 := hx.c1; replace f10 := hx.f0 0; replace f11 := hx.f0 1; clear hx))
            go_roundw
            case rel =>
              have hacc := accD_put (fun i => rngF lo hi i) d j 2 HJ.out HE.out
              have := HD.out
              have := HX.out
              exact ⟨d + 1, by omega, by rw [Value.int.injEq]; exact ⟨rfl, by omega⟩, by rw [show 64 - (d + 1) = j by omega, HN.out], (((H0.out.gr hq).other (by omega) _).other (by omega) _), (by rw [hacc.1, hacc.2]; exact (H1.out.gr hq).set _ _), ((HG.out.trans hq).set (by omega) _).set (by omega) _⟩
            case measure => simp [intOf]
          · have HN : Hid (topE lo hi j = false) := by
              have := HT.out; rw [ht, hl, hh] at this; exact this
            have HE : Hid (rngF lo hi j = 2) := by rw [rngF, HN.out]; rfl
            rw [hl] at ql
            rw [hh] at qh
            replace ql : bits .and .u64 (iv (lo >>> j)) 1 = 0 := ql
            replace qh : bits .and .u64 (iv (hi >>> j)) 1 = 1 := qh
            clear hl hh ht HT
            go_wp2_with (first
              | (go_at_call 44; refine (put_gr2 _ _ hj64 _).mono ?_; rintro e w' ⟨rfl, hq⟩; have hx := H1.out.gr hq; replace c10 := hx.c0; replace c11 := hx.c1; replace f10 := hx.f0 0; replace f11 := hx.f0 1; clear hx))
            go_roundw
            case rel =>
              have hacc := accD_put (fun i => rngF lo hi i) d j 2 HJ.out HE.out
              have := HD.out
              have := HX.out
              exact ⟨d + 1, by omega, by rw [Value.int.injEq]; exact ⟨rfl, by omega⟩, by rw [show 64 - (d + 1) = j by omega, HN.out], (((H0.out.gr hq).other (by omega) _).other (by omega) _), (by rw [hacc.1, hacc.2]; exact (H1.out.gr hq).set _ _), ((HG.out.trans hq).set (by omega) _).set (by omega) _⟩
            case measure => simp [intOf]
        · cases hh : hi.getLsbD j
          · have HN : Hid (topE lo hi j = false) := by
              have := HT.out; rw [ht, hl, hh] at this; exact this
            have HE : Hid (rngF lo hi j = 2) := by rw [rngF, HN.out]; rfl
            rw [hl] at ql
            rw [hh] at qh
            replace ql : bits .and .u64 (iv (lo >>> j)) 1 = 1 := ql
            replace qh : bits .and .u64 (iv (hi >>> j)) 1 = 0 := qh
            clear hl hh ht HT
            go_wp2_with (first
              | (go_at_call 44; refine (put_gr2 _ _ hj64 _).mono ?_; rintro e w' ⟨rfl, hq⟩; have hx := H1.out.gr hq; replace c10 := hx.c0; replace c11 := hx.c1; replace f10 := hx.f0 0; replace f11 := hx.f0 1; clear hx))
            go_roundw
            case rel =>
              have hacc := accD_put (fun i => rngF lo hi i) d j 2 HJ.out HE.out
              have := HD.out
              have := HX.out
              exact ⟨d + 1, by omega, by rw [Value.int.injEq]; exact ⟨rfl, by omega⟩, by rw [show 64 - (d + 1) = j by omega, HN.out], (((H0.out.gr hq).other (by omega) _).other (by omega) _), (by rw [hacc.1, hacc.2]; exact (H1.out.gr hq).set _ _), ((HG.out.trans hq).set (by omega) _).set (by omega) _⟩
            case measure => simp [intOf]
          · have HN : Hid (topE lo hi j = false) := by
              have := HT.out; rw [ht, hl, hh] at this; exact this
            have HE : Hid (rngF lo hi j = 2) := by rw [rngF, HN.out]; rfl
            rw [hl] at ql
            rw [hh] at qh
            replace ql : bits .and .u64 (iv (lo >>> j)) 1 = 1 := ql
            replace qh : bits .and .u64 (iv (hi >>> j)) 1 = 1 := qh
            clear hl hh ht HT
            go_wp2_with (first
              | (go_at_call 44; refine (put_gr2 _ _ hj64 _).mono ?_; rintro e w' ⟨rfl, hq⟩; have hx := H1.out.gr hq; replace c10 := hx.c0; replace c11 := hx.c1; replace f10 := hx.f0 0; replace f11 := hx.f0 1; clear hx))
            go_roundw
            case rel =>
              have hacc := accD_put (fun i => rngF lo hi i) d j 2 HJ.out HE.out
              have := HD.out
              have := HX.out
              exact ⟨d + 1, by omega, by rw [Value.int.injEq]; exact ⟨rfl, by omega⟩, by rw [show 64 - (d + 1) = j by omega, HN.out], (((H0.out.gr hq).other (by omega) _).other (by omega) _), (by rw [hacc.1, hacc.2]; exact (H1.out.gr hq).set _ _), ((HG.out.trans hq).set (by omega) _).set (by omega) _⟩
            case measure => simp [intOf]
      · cases hl : lo.getLsbD j
        · cases hh : hi.getLsbD j
          · have HN : Hid (topE lo hi j = true) := by
              have := HT.out; rw [ht, hl, hh] at this; exact this
            have HE : Hid (rngF lo hi j = 0) := by rw [rngF, HN.out, hl]; rfl
            rw [hl] at ql
            rw [hh] at qh
            replace ql : bits .and .u64 (iv (lo >>> j)) 1 = 0 := ql
            replace qh : bits .and .u64 (iv (hi >>> j)) 1 = 0 := qh
            clear hl hh ht HT
            go_wp2_with (first
              | (go_at_call 44; refine (put_gr0 _ _ hj64 _).mono ?_; rintro e w' ⟨rfl, hq⟩; have hx := H1.out.gr hq; replace c10 := hx.c0; replace c11 := hx.c1; replace f10 := hx.f0 0; replace f11 := hx.f0 1; clear hx))
            go_roundw
            case rel =>
              have hacc := accD_put (fun i => rngF lo hi i) d j 0 HJ.out HE.out
              have := HD.out
              have := HX.out
              exact ⟨d + 1, by omega, by rw [Value.int.injEq]; exact ⟨rfl, by omega⟩, by rw [show 64 - (d + 1) = j by omega, HN.out], (((H0.out.gr hq).other (by omega) _).other (by omega) _), (by rw [hacc.1, hacc.2]; exact (H1.out.gr hq).set _ _), ((HG.out.trans hq).set (by omega) _).set (by omega) _⟩
            case measure => simp [intOf]
          · have HN : Hid (topE lo hi j = false) := by
              have := HT.out; rw [ht, hl, hh] at this; exact this
            have HE : Hid (rngF lo hi j = 2) := by rw [rngF, HN.out]; rfl
            rw [hl] at ql
            rw [hh] at qh
            replace ql : bits .and .u64 (iv (lo >>> j)) 1 = 0 := ql
            replace qh : bits .and .u64 (iv (hi >>> j)) 1 = 1 := qh
            clear hl hh ht HT
            go_wp2_with (first
              | (go_at_call 44; refine (put_gr2 _ _ hj64 _).mono ?_; rintro e w' ⟨rfl, hq⟩; have hx := H1.out.gr hq; replace c10 := hx.c0; replace c11 := hx.c1; replace f10 := hx.f0 0; replace f11 := hx.f0 1; clear hx))
            go_roundw
            case rel =>
              have hacc := accD_put (fun i => rngF lo hi i) d j 2 HJ.out HE.out
              have := HD.out
              have := HX.out
              exact ⟨d + 1, by omega, by rw [Value.int.injEq]; exact ⟨rfl, by omega⟩, by rw [show 64 - (d + 1) = j by omega, HN.out], (((H0.out.gr hq).other (by omega) _).other (by omega) _), (by rw [hacc.1, hacc.2]; exact (H1.out.gr hq).set _ _), ((HG.out.trans hq).set (by omega) _).set (by omega) _⟩
            case measure => simp [intOf]
        · cases hh : hi.getLsbD j
          · have HN : Hid (topE lo hi j = false) := by
              have := HT.out; rw [ht, hl, hh] at this; exact this
            have HE : Hid (rngF lo hi j = 2) := by rw [rngF, HN.out]; rfl
            rw [hl] at ql
            rw [hh] at qh
            replace ql : bits .and .u64 (iv (lo >>> j)) 1 = 1 := ql
            replace qh : bits .and .u64 (iv (hi >>> j)) 1 = 0 := qh
            clear hl hh ht HT
            go_wp2_with (first
              | (go_at_call 44; refine (put_gr2 _ _ hj64 _).mono ?_; rintro e w' ⟨rfl, hq⟩; have hx := H1.out.gr hq; replace c10 := hx.c0; replace c11 := hx.c1; replace f10 := hx.f0 0; replace f11 := hx.f0 1; clear hx))
            go_roundw
            case rel =>
              have hacc := accD_put (fun i => rngF lo hi i) d j 2 HJ.out HE.out
              have := HD.out
              have := HX.out
              exact ⟨d + 1, by omega, by rw [Value.int.injEq]; exact ⟨rfl, by omega⟩, by rw [show 64 - (d + 1) = j by omega, HN.out], (((H0.out.gr hq).other (by omega) _).other (by omega) _), (by rw [hacc.1, hacc.2]; exact (H1.out.gr hq).set _ _), ((HG.out.trans hq).set (by omega) _).set (by omega) _⟩
            case measure => simp [intOf]
          · have HN : Hid (topE lo hi j = true) := by
              have := HT.out; rw [ht, hl, hh] at this; exact this
            have HE : Hid (rngF lo hi j = 1) := by rw [rngF, HN.out, hl]; rfl
            rw [hl] at ql
            rw [hh] at qh
            replace ql : bits .and .u64 (iv (lo >>> j)) 1 = 1 := ql
            replace qh : bits .and .u64 (iv (hi >>> j)) 1 = 1 := qh
            clear hl hh ht HT
            go_wp2_with (first
              | (go_at_call 44; refine (put_gr1 _ _ hj64 _).mono ?_; rintro e w' ⟨rfl, hq⟩; have hx := H1.out.gr hq; replace c10 := hx.c0; replace c11 := hx.c1; replace f10 := hx.f0 0; replace f11 := hx.f0 1; clear hx))
            go_roundw
            case rel =>
              have hacc := accD_put (fun i => rngF lo hi i) d j 1 HJ.out HE.out
              have := HD.out
              have := HX.out
              exact ⟨d + 1, by omega, by rw [Value.int.injEq]; exact ⟨rfl, by omega⟩, by rw [show 64 - (d + 1) = j by omega, HN.out], (((H0.out.gr hq).other (by omega) _).other (by omega) _), (by rw [hacc.1, hacc.2]; exact (H1.out.gr hq).set _ _), ((HG.out.trans hq).set (by omega) _).set (by omega) _⟩
            case measure => simp [intOf]
    · obtain rfl : d = 64 := by omega
      have hm : (63 : Int) - ((64 : Nat) : Int) = -1 := by decide
      rw [hm]
      have hx := H0.out.gr (Gr.refl wr)
      replace c00 := hx.c0
      replace c01 := hx.c1
      replace f00 := hx.f0 0
      replace f01 := hx.f0 1
      clear hx
      have hx := H1.out.gr (Gr.refl wr)
      replace c10 := hx.c0
      replace c11 := hx.c1
      replace f10 := hx.f0 0
      replace f11 := hx.f0 1
      clear hx
      have e0 := (H0.out.set (accD (fun i => rngF lo hi i == 1) 64) (accD (fun i => rngF lo hi i == 2) 64)).c0
      have e1 := (H0.out.set (accD (fun i => rngF lo hi i == 1) 64) (accD (fun i => rngF lo hi i == 2) 64)).c1
      go_wp2
      refine bodyPost_ret (by simp [results, Try.results19, go_sem, e0, e1]; try rfl) rfl ?_
      exact ⟨rfl, (HG.out.set (by omega) _).set (by omega) _⟩

end Go.Proofs.Ytoomcnjpomdbpaa
