/- Towards the statements of package code (layer 8): Check. -/
import Derived.Test.YtdmdmbcapjmnlabCU
namespace Go.Proofs.Ytdmdmbcapjmnlab
open Go.ChangeShapes Go.WideShapes Go.ChangeAt
open Go.RowKit Go.Shelf
set_option linter.unusedVariables false
set_option linter.unusedSimpArgs false
set_option maxRecDepth 20000

abbrev bgM (L : List Sl) : List Bool := (walkM L).2
abbrev hsM (L : List Sl) : List Nat := (headsM L (bgM L)).map Int.toNat
abbrev slM (L : List Sl) : List (Nat × Nat) := subF (hsM L) L.length (hsM L).length
abbrev hlM (L : List Sl) : List Nat := homeF (hsM L) L.length (hsM L).length
/-- Does nothing lead to it? -/
noncomputable def missC (L : List Sl) (k : Nat) : Bool := by
  classical exact decide (¬ Rch (leadsN L) ((slM L).map (·.1)) k ∧ k ≠ (subOf (slM L) (hlM L) k).1)
theorem missB_eq {L : List Sl} {R : List Bool} (h : ∀ j, isOn R j ↔ Rch (leadsN L) ((slM L).map (·.1)) j) (k : Nat) : missB R (slM L) (hlM L) k = missC L k := by
  classical
  have := h k
  unfold missB missC subOf
  cases hb : R[k]?.getD false with
  | true => rw [isOn, hb] at this; simp [this.1 rfl]
  | false =>
    rw [isOn, hb] at this
    have hn : ¬ Rch (leadsN L) ((slM L).map (·.1)) k := fun h => by have := this.2 h; cases this
    generalize ((slM L)[(hlM L)[k]?.getD 0]?.getD (0, 0)).1 = q
    by_cases he : k = q
    · rw [decide_eq_true (Int.ofNat_inj.2 he)]
      simp [hn, he]
    · rw [decide_eq_false (fun h => he (Int.ofNat_inj.1 h))]
      simp [hn, he]
abbrev begM (L : List Sl) : List Int := begL (bgM L) 0 (bgM L).length
def partX (L : List Sl) : Int × Int := match (hsM L)[32]? with
  | some x => (Int.ofNat x, 4)
  | none => (0, 0)
/-- What the n-th check answers, if those ahead of it have found nothing. -/
noncomputable def chkX (L : List Sl) : Nat → Int × Int
  | 0 => (0, if L.length = 0 then 2 else 0)
  | 1 => (if 1024 < L.length then 1024 else 0, if 1024 < L.length then 4 else 0)
  | 2 => (if (walkM L).1 < L.length then ((walkM L).1 : Int) else 0, if (walkM L).1 < L.length then 80 else 0)
  | 3 => leastX (begM L) (strayB L (bgM L)) 81
  | 4 => partX L
  | 5 => leastX (begM L) (leaveB L (slM L) (hlM L)) 82
  | 6 => leastX (begM L) (fun x => missC L x.toNat) 84
  | _ => leastX (begM L) (fun x => loopB L (bgM L) (slM L) (hlM L) x.toNat) 83
/-- What Check answers from the n-th check on. -/
noncomputable def chkF (L : List Sl) : Nat → Nat → Int × Int
  | 0, _ => (0, 0)
  | f + 1, n => if (chkX L n).2 = 0 then chkF L f (n + 1) else chkX L n
noncomputable def chkM (L : List Sl) : Int × Int := chkF L 8 0
theorem least_zero {xs : List Int} {is : Int → Bool} {e : Int} (he : e ≠ 0) (h : (leastX xs is e).2 = 0) : ∀ y ∈ xs, is y = false := by
  unfold leastX at h
  cases hf : xs.find? is with
  | some x => rw [hf] at h; exact absurd h he
  | none => intro y hy; simpa using List.find?_eq_none.1 hf y hy
/-- All checks ahead of this one have found nothing. -/
def Passed (L : List Sl) (n : Nat) : Prop := ∀ m, m < n → (chkX L m).2 = 0
section
variable {L : List Sl}
theorem pass0 {n : Nat} (h : Passed L n) (hn : 1 ≤ n) : L.length ≠ 0 := fun e => by have := h 0 (by omega); simp [chkX, e] at this
theorem pass1 {n : Nat} (h : Passed L n) (hn : 2 ≤ n) : L.length ≤ 1024 := by
  have := h 1 (by omega)
  rcases Nat.lt_or_ge 1024 L.length with h' | h'
  · simp [chkX, h'] at this
  · exact h'
theorem pass2 {n : Nat} (h : Passed L n) (hn : 3 ≤ n) : L.length ≤ (walkM L).1 := by
  have := h 2 (by omega)
  rcases Nat.lt_or_ge (walkM L).1 L.length with h' | h'
  · simp [chkX, h'] at this
  · exact h'
theorem bg_len (L : List Sl) : (bgM L).length = L.length := (walkM_ok L).len
theorem pass3 {n : Nat} (h : Passed L n) (hn : 4 ≤ n) : ∀ y ∈ begL (bgM L) 0 L.length, strayB L (bgM L) y = false := by
  have := h 3 (by omega)
  have := least_zero (by decide) this
  rwa [begM, bg_len] at this
theorem pass_heads {n : Nat} (h : Passed L n) (hn : 4 ≤ n) : HeadsOk L (bgM L) (hsM L) := heads_ok (pass0 h (by omega)) (pass3 h hn)
theorem pass5 {n : Nat} (h : Passed L n) (hn : 6 ≤ n) : ∀ y ∈ begL (bgM L) 0 L.length, leaveB L (slM L) (hlM L) y = false := by
  have := h 5 (by omega)
  have := least_zero (by decide) this
  rwa [begM, bg_len] at this
end
/-- The closures of the checks. -/
def fnOf : Nat → Nat
  | 0 => 23 | 1 => 25 | 2 => 26 | 3 => 28 | 4 => 31 | 5 => 33 | 6 => 35 | _ => 37
/-- How far Check has come. -/
structure Ph (L : List Sl) (w : World) (sv : Value) (P Bp : Nat) (k : Nat) (W : World) : Prop where
  bel : Below w.heap.size w W
  slots : Slots (· ≠ P) W sv L
  hP : w.heap.size ≤ P
  ne : Bp ≠ P ∧ Bp + 1 ≠ P
  box : W.heap[Bp]? = some (.cells #[.pointer (some ⟨P, 0, none⟩)] 42)
  row : W.heap[Bp + 1]? = some (.cells ((List.range 8).map fun j => Value.func (.func (fnOf j)) #[] #[.pointer (some ⟨Bp, 0, none⟩)]).toArray 48)
  rest : ∃ vb vs vh, Rec W P sv vb vs vh ∧ (k ≤ 4 → vs = .slice none 0 0) ∧ (3 ≤ k → ∃ bb, bb ≠ P ∧ Bools W bb vb (bgM L)) ∧ (5 ≤ k → ∃ sb hb, w.heap.size ≤ sb ∧ SubsAt W sb vs (slM L) ∧ HomeAt W hb vh (hlM L))
theorem ch_lt {W : World} {b : Nat} {o : Obj} (h : W.heap[b]? = some o) : b < W.heap.size := (Array.getElem?_eq_some_iff.1 h).1
theorem Ph.next {L : List Sl} {w : World} {sv : Value} {P Bp k : Nat} {W W' : World} (h : Ph L w sv P Bp k W) (hb : Below W.heap.size W W') (hk : k ≠ 2) (hk4 : k ≠ 4) : Ph L w sv P Bp (k + 1) W' := by
  have a1 : k + 1 ≤ 4 → k ≤ 4 := by omega
  have a2 : 3 ≤ k + 1 → 3 ≤ k := by omega
  have a3 : 5 ≤ k + 1 → 5 ≤ k := by omega
  obtain ⟨vb, vs, vh, hR, h1, h2, h3⟩ := h.rest
  refine ⟨h.bel.trans (hb.mono h.bel.size), h.slots.gr hb, h.hP, h.ne, (hb.block _ (ch_lt h.box)).trans h.box, (hb.block _ (ch_lt h.row)).trans h.row, vb, vs, vh, hR.gr hb, fun hh => h1 (a1 hh), fun hh => ?_, fun hh => ?_⟩
  · obtain ⟨bb, hn, hB⟩ := h2 (a2 hh)
    exact ⟨bb, hn, hB.gr hb⟩
  · obtain ⟨sb, hb', hl, hS, hH⟩ := h3 (a3 hh)
    exact ⟨sb, hb', hl, hS.gr hb, hH.gr hb⟩
theorem bel_grown {w A B : World} {P : Nat} (h : Below w.heap.size w A) (hg : A.grownBy B (some P)) (hP : w.heap.size ≤ P) : Below w.heap.size w B := h.grown hg h.size (fun k e => by cases e; exact hP)
set_option maxHeartbeats 1000000 in
/-- **One check.** -/
theorem step_any (L : List Sl) (w : World) (sv : Value) (P Bp k : Nat) (hk : k < 8) (hp : Passed L k) (W : World) (h : Ph L w sv P Bp k W) :
    Calls Try.prog (fnOf k) #[.pointer (some ⟨Bp, 0, none⟩)] W fun e W' => e = .returned (ans (chkX L k).1 (chkX L k).2) ∧ ((chkX L k).2 = 0 → Ph L w sv P Bp (k + 1) W') ∧ Below w.heap.size w W' := by
  obtain ⟨vb, vs, vh, hR, h1, h2, h3⟩ := h.rest
  have hL := h.slots.mono (S' := AnyB) fun _ _ => trivial
  have hBp : W.cell? ⟨Bp, 0, none⟩ = some (.pointer (some ⟨P, 0, none⟩)) := (show Boxed W Bp 42 _ from h.box).cell
  have hlB := bg_len L
  have hbel : ∀ {W'}, Below W.heap.size W W' → Below w.heap.size w W' := fun hb => h.bel.trans (hb.mono h.bel.size)
  rcases (show k = 0 ∨ k = 1 ∨ k = 2 ∨ k = 3 ∨ k = 4 ∨ k = 5 ∨ k = 6 ∨ k = 7 by omega) with rfl | rfl | rfl | rfl | rfl | rfl | rfl | rfl
  · refine (check1_any P Bp sv vb vs vh L W hR hL hBp).mono ?_
    rintro e W' ⟨rfl, rfl⟩
    exact ⟨rfl, fun _ => h.next (Below.refl _ _) (by decide) (by decide), h.bel⟩
  · refine (check2_any P Bp sv vb vs vh L W hR hL hBp).mono ?_
    rintro e W' ⟨rfl, rfl⟩
    exact ⟨rfl, fun _ => h.next (Below.refl _ _) (by decide) (by decide), h.bel⟩
  · refine (check3_any P Bp sv vb vs vh L W hR h.slots hBp).mono ?_
    rintro e W' ⟨rfl, bb, vb', hbb, hB, hR', hg⟩
    have hbP : bb ≠ P := by have := hR.lt; omega
    have hblk : ∀ b o, W.heap[b]? = some o → b ≠ P → W'.heap[b]? = some o := fun b o hb hn => (hg.block b (ch_lt hb) (by simpa using hn)).trans hb
    exact ⟨rfl, fun _ => ⟨bel_grown h.bel hg h.hP, h.slots.grown hg, h.hP, h.ne, hblk _ _ h.box h.ne.1, hblk _ _ h.row h.ne.2, vb', vs, vh, hR', fun _ => h1 (by omega), fun _ => ⟨bb, hbP, hB⟩, fun hh => by omega⟩, bel_grown h.bel hg h.hP⟩
  · obtain ⟨bb, hn, hB⟩ := h2 (by omega)
    refine (check4_any P Bp sv vb vs vh L W bb (bgM L) hlB (walkM_ok L).beg hR hL hB hBp).mono ?_
    rintro e W' ⟨rfl, hb⟩
    exact ⟨rfl, fun _ => h.next hb (by decide) (by decide), hbel hb⟩
  · obtain ⟨bb, hn, hB⟩ := h2 (by omega)
    obtain rfl := h1 (by omega)
    have ho := pass_heads hp (by omega)
    have hl1 := pass1 hp (by omega)
    refine (check5_any P Bp sv vb vh L W bb (bgM L) hlB (hsM L) ho.eq ho.ne ho.lt (fun i x hx => Nat.le_of_lt (ho.ltTo i x hx)) (by have := ho.len; omega) hR h.slots hB hBp).mono ?_
    rintro e W' ⟨rfl, sb, hb, vs', vh', l1, l2, hS, hH, hR', hg⟩
    have hblk : ∀ b o, W.heap[b]? = some o → b ≠ P → W'.heap[b]? = some o := fun b o hb hn => (hg.block b (ch_lt hb) (by simpa using hn)).trans hb
    refine ⟨?_, fun _ => ⟨bel_grown h.bel hg h.hP, h.slots.grown hg, h.hP, h.ne, hblk _ _ h.box h.ne.1, hblk _ _ h.row h.ne.2, vb, vs', vh', hR', fun hh => by omega, fun _ => ⟨bb, hn, hB.val, hblk _ _ hB.blk hn⟩, fun _ => ⟨sb, hb, Nat.le_trans h.bel.size l1, hS, hH⟩⟩, bel_grown h.bel hg h.hP⟩
    unfold partV chkX partX ans
    cases (hsM L)[32]? <;> rfl
  · obtain ⟨bb, hn, hB⟩ := h2 (by omega)
    obtain ⟨sb, hb, hl, hS, hH⟩ := h3 (by omega)
    have ho := pass_heads hp (by omega)
    have ok := ho.sub hlB
    refine (check6_any P Bp sv vb vs vh L W bb sb hb (bgM L) hlB (slM L) (hlM L) ok.hl ok.hin hR hL hB hS hH hBp).mono ?_
    rintro e W' ⟨rfl, hb⟩
    exact ⟨rfl, fun _ => h.next hb (by decide) (by decide), hbel hb⟩
  · obtain ⟨bb, hn, hB⟩ := h2 (by omega)
    obtain ⟨sb, hb, hl, hS, hH⟩ := h3 (by omega)
    have ho := pass_heads hp (by omega)
    have ok := ho.sub hlB
    have hz := walkM_zero (pass0 hp (by omega)) (pass2 hp (by omega))
    have hne : slM L ≠ [] := fun e => by have h5 := subF_len (hsM L) L.length (hsM L).length; rw [show subF (hsM L) L.length (hsM L).length = [] from e] at h5; exact ho.ne (List.length_eq_zero_iff.1 h5.symm)
    refine (check7_any P Bp sv vb vs vh L W bb sb hb (bgM L) hlB (slM L) hne (hlM L) ok.hl ok.hin (fun u => u < L.length ∧ (bgM L)[u]?.getD false = true) (fun u hu => hu.1) (fun u hu t ht => ho.leadsIn hlB (pass3 hp (by omega)) (pass5 hp (by omega)) u hu t ht) (fun u hu => leadsM_none ((walkM_ok L).rest (pass2 hp (by omega))) u hu) (ho.subBeg hz) hR hL hB hS hH (ch_lt h.box) hBp).mono ?_
    rintro e W' ⟨R, hRc, rfl, hb⟩
    have e : (fun x : Int => missB R (slM L) (hlM L) x.toNat) = fun x => missC L x.toNat := funext fun x => missB_eq hRc _
    rw [e]
    exact ⟨rfl, fun _ => h.next hb (by decide) (by decide), hbel hb⟩
  · obtain ⟨bb, hn, hB⟩ := h2 (by omega)
    obtain ⟨sb, hb, hl, hS, hH⟩ := h3 (by omega)
    have ho := pass_heads hp (by omega)
    have ok := ho.sub hlB
    refine (check8_any P Bp sv vb vs vh L W bb sb hb (bgM L) (slM L) (hlM L) ok hR hL hB hS hH hBp).mono ?_
    rintro e W' ⟨rfl, hb⟩
    exact ⟨rfl, fun _ => h.next hb (by decide) (by decide), hbel hb⟩
end Go.Proofs.Ytdmdmbcapjmnlab
