/- Towards the statements of package code (layer 8): the row of checks, one by one: the first seven. -/
import Derived.Test.YtdmdmbcapjmnlabCO
import Derived.Test.YtdmdmbcapjmnlabCI
namespace Go.Proofs.Ytdmdmbcapjmnlab
open Go.ChangeShapes Go.WideShapes Go.ChangeAt
open Go.RowKit Go.Shelf
set_option linter.unusedVariables false
set_option linter.unusedSimpArgs false
set_option maxRecDepth 20000

/-- An answer of a check: a slot, and an error. -/
def ans (x e : Int) : Value := .tuple #[.int .i64 x, .int .i64 e]
/-- The first of which it is so, as a number and an error. -/
def leastX (xs : List Int) (is : Int → Bool) (e : Int) : Int × Int := match xs.find? is with
  | some x => (x, e)
  | none => (0, 0)
theorem leastM_eq (xs : List Int) (is : Int → Bool) (e : Int) : leastM xs is e = ans (leastX xs is e).1 (leastX xs is e).2 := by
  unfold leastM leastX ans; cases xs.find? is <;> rfl
theorem begL_mem {Bg : List Bool} {a b : Nat} {x : Int} (h : x ∈ begL Bg a b) : ∃ k : Nat, x = k ∧ a ≤ k ∧ k < b ∧ Bg[k]?.getD false = true := by
  unfold begL at h
  obtain ⟨k, hk, rfl⟩ := List.mem_map.1 h
  rw [List.mem_filter] at hk
  obtain ⟨h1, h2⟩ := hk
  rw [List.mem_range'] at h1
  obtain ⟨i, hi, rfl⟩ := h1
  exact ⟨a + 1 * i, rfl, by omega, by omega, h2⟩
section
variable (P Bp : Nat) (sv vb vs vh : Value) (L : List Sl) (w : World)
theorem check1_any (hR : Rec w P sv vb vs vh) (hL : Slots AnyB w sv L) (hBp : w.cell? ⟨Bp, 0, none⟩ = some (.pointer (some ⟨P, 0, none⟩))) : Calls Try.prog 23 #[.pointer (some ⟨Bp, 0, none⟩)] w fun e w' => e = .returned (ans 0 (if L.length = 0 then 2 else 0)) ∧ w' = w := by
  obtain ⟨p, c, rfl⟩ := hL.shape
  obtain ⟨r0, r1, r2, r3⟩ := hR.cells
  by_cases h : L.length = 0
  · have hd : (((L.length : Int)) == 0) = true := by simp [h]
    have kt := fun W => told_any 0 true 2 W
    rw [if_pos h]
    go_enter Try.func23, Try.ntmps23
    go_wp2_with first | (go_at_call 24; refine (kt _).mono ?_; rintro e w' ⟨rfl, hw⟩; rw [hw]; clear hw)
    go_returns
    exact ⟨rfl, rfl⟩
  · have hd : (((L.length : Int)) == 0) = false := by simpa using h
    have kt := fun W => told_any 0 false 2 W
    rw [if_neg h]
    go_enter Try.func23, Try.ntmps23
    go_wp2_with first | (go_at_call 24; refine (kt _).mono ?_; rintro e w' ⟨rfl, hw⟩; rw [hw]; clear hw)
    go_returns
    exact ⟨rfl, rfl⟩
theorem check2_any (hR : Rec w P sv vb vs vh) (hL : Slots AnyB w sv L) (hBp : w.cell? ⟨Bp, 0, none⟩ = some (.pointer (some ⟨P, 0, none⟩))) : Calls Try.prog 25 #[.pointer (some ⟨Bp, 0, none⟩)] w fun e w' => e = .returned (ans (if 1024 < L.length then 1024 else 0) (if 1024 < L.length then 4 else 0)) ∧ w' = w := by
  obtain ⟨p, c, rfl⟩ := hL.shape
  obtain ⟨r0, r1, r2, r3⟩ := hR.cells
  by_cases h : 1024 < L.length
  · have hd : decide ((1024 : Int) < L.length) = true := by simp; omega
    have kt := fun W => told_any 1024 true 4 W
    rw [if_pos h, if_pos h]
    go_enter Try.func25, Try.ntmps25
    go_wp2_with first | (go_at_call 24; refine (kt _).mono ?_; rintro e w' ⟨rfl, hw⟩; rw [hw]; clear hw)
    go_returns
    exact ⟨rfl, rfl⟩
  · have hd : decide ((1024 : Int) < L.length) = false := by simp; omega
    have kt := fun W => told_any 1024 false 4 W
    rw [if_neg h, if_neg h]
    go_enter Try.func25, Try.ntmps25
    go_wp2_with first | (go_at_call 24; refine (kt _).mono ?_; rintro e w' ⟨rfl, hw⟩; rw [hw]; clear hw)
    go_returns
    exact ⟨rfl, rfl⟩
theorem check3_any (hR : Rec w P sv vb vs vh) (hL : Slots (· ≠ P) w sv L) (hBp : w.cell? ⟨Bp, 0, none⟩ = some (.pointer (some ⟨P, 0, none⟩))) : Calls Try.prog 26 #[.pointer (some ⟨Bp, 0, none⟩)] w fun e w' => e = .returned (ans (if (walkM L).1 < L.length then (walkM L).1 else 0) (if (walkM L).1 < L.length then 80 else 0)) ∧ ∃ bb vb', w.heap.size ≤ bb ∧ Bools w' bb vb' (walkM L).2 ∧ Rec w' P sv vb' vs vh ∧ w.grownBy w' (some P) := by
  have k1 := walk_any P sv vb vs vh L w hR hL
  unfold ans
  generalize (if (walkM L).1 < L.length then ((walkM L).1 : Int) else 0) = q1 at k1 ⊢
  generalize (if (walkM L).1 < L.length then (80 : Int) else 0) = q2 at k1 ⊢
  go_enter Try.func26, Try.ntmps26
  go_wp2_with first | (go_at_call 27; refine k1.mono ?_; rintro e w' ⟨rfl, hw⟩)
  go_returns
  exact ⟨rfl, hw⟩
/-- What walk has made sure of the beginnings. -/
def BegOk (L : List Sl) (Bg : List Bool) : Prop := ∀ k : Nat, Bg[k]?.getD false = true → ∃ x, slotAt L k = some x ∧ (x.k = 9 → ∃ y, slotAt L ((k : Int) + 1) = some y)
theorem check4_any (bb : Nat) (Bg : List Bool) (hLB : Bg.length = L.length) (hok : BegOk L Bg) (hR : Rec w P sv vb vs vh) (hL : Slots AnyB w sv L) (hB : Bools w bb vb Bg) (hBp : w.cell? ⟨Bp, 0, none⟩ = some (.pointer (some ⟨P, 0, none⟩))) : Calls Try.prog 28 #[.pointer (some ⟨Bp, 0, none⟩)] w fun e w' => e = .returned (ans (leastX (begL Bg 0 Bg.length) (strayB L Bg) 81).1 (leastX (begL Bg 0 Bg.length) (strayB L Bg) 81).2) ∧ Below w.heap.size w w' := by
  have hlen := hL.len
  have k1 := callsIn_wide.1 (least_in 3 (Nat.le_refl _) P bb sv vb vs vh L AnyB Bg (by omega) hLB 30 #[.pointer (some ⟨P, 0, none⟩)] #[] (strayB L Bg) 81 w hR hL hB.lt hB (enters_of Try.func30 (by kernel_rfl) rfl) (fun x W hx hW => by
    obtain ⟨k, rfl, _, _, hb⟩ := begL_mem hx
    obtain ⟨s, hs, h9⟩ := hok k hb
    exact callsIn_wide.1 (strays_in 3 (Nat.le_refl _) P bb sv vb vs vh L Bg hLB k s hs h9 W (hR.gr hW) (hL.gr hW) (hB.gr hW))))
  rw [leastM_eq, ans] at k1
  generalize (leastX (begL Bg 0 Bg.length) (strayB L Bg) 81) = q at k1 ⊢
  go_enter Try.func28, Try.ntmps28
  go_wp2_with first | (go_at_call 29; refine k1.mono ?_; rintro e w' ⟨rfl, hw⟩)
  go_returns
  exact ⟨rfl, hw⟩
theorem check5_any (bb : Nat) (Bg : List Bool) (hLB : Bg.length = L.length) (hs : List Nat) (hhs : headsM L Bg = hs.map Int.ofNat) (hne : hs ≠ []) (hlt : ∀ x ∈ hs, x < L.length) (hup : ∀ (i : Nat) (x : Nat), hs[i]? = some x → x ≤ toOf hs L.length i) (hl : hs.length ≤ 4096) (hR : Rec w P sv vb (.slice none 0 0) vh) (hL : Slots (· ≠ P) w sv L) (hB : Bools w bb vb Bg) (hBp : w.cell? ⟨Bp, 0, none⟩ = some (.pointer (some ⟨P, 0, none⟩))) :
    Calls Try.prog 31 #[.pointer (some ⟨Bp, 0, none⟩)] w fun e w' => e = .returned (partV hs) ∧ ∃ sb hb vs' vh', w.heap.size ≤ sb ∧ w.heap.size ≤ hb ∧ SubsAt w' sb vs' (subF hs L.length hs.length) ∧ HomeAt w' hb vh' (homeF hs L.length hs.length) ∧ Rec w' P sv vb vs' vh' ∧ w.grownBy w' (some P) := by
  have k1 := part_any P bb sv vb vh L Bg hLB hs hhs hne hlt hup hl w hR hL hB
  obtain ⟨x, e, hpv⟩ : ∃ x e : Int, partV hs = .tuple #[.int .i64 x, .int .i64 e] := by unfold partV; cases hs[32]? <;> exact ⟨_, _, rfl⟩
  rw [hpv] at k1 ⊢
  go_enter Try.func31, Try.ntmps31
  go_wp2_with first | (go_at_call 32; refine k1.mono ?_; rintro e w' ⟨rfl, hw⟩)
  go_returns
  exact ⟨rfl, hw⟩
/-- The subprogram of a slot. -/
def subOf (SL : List (Nat × Nat)) (HL : List Nat) (k : Nat) : Nat × Nat := SL[HL[k]?.getD 0]?.getD (0, 0)
def leaveB (L : List Sl) (SL : List (Nat × Nat)) (HL : List Nat) (x : Int) : Bool := (leadsM L x).any (outB (subOf SL HL x.toNat))
theorem check6_any (bb sb hb : Nat) (Bg : List Bool) (hLB : Bg.length = L.length) (SL : List (Nat × Nat)) (HL : List Nat) (hHL : HL.length = L.length) (hin : ∀ h ∈ HL, h < SL.length) (hR : Rec w P sv vb vs vh) (hL : Slots AnyB w sv L) (hB : Bools w bb vb Bg) (hS : SubsAt w sb vs SL) (hH : HomeAt w hb vh HL) (hBp : w.cell? ⟨Bp, 0, none⟩ = some (.pointer (some ⟨P, 0, none⟩))) : Calls Try.prog 33 #[.pointer (some ⟨Bp, 0, none⟩)] w fun e w' => e = .returned (ans (leastX (begL Bg 0 Bg.length) (leaveB L SL HL) 82).1 (leastX (begL Bg 0 Bg.length) (leaveB L SL HL) 82).2) ∧ Below w.heap.size w w' := by
  have hlen := hL.len
  have k1 := callsIn_wide.1 (least_in 3 (Nat.le_refl _) P bb sv vb vs vh L AnyB Bg (by omega) hLB 34 #[.pointer (some ⟨P, 0, none⟩)] #[] (leaveB L SL HL) 82 w hR hL hB.lt hB (enters_of Try.func34 (by kernel_rfl) rfl) (fun x W hx hW => by
    obtain ⟨k, rfl, _, hk, hb⟩ := begL_mem hx
    obtain ⟨h, hh⟩ : ∃ h, HL[k]? = some h := ⟨HL[k]'(by omega), List.getElem?_eq_getElem (by omega)⟩
    obtain ⟨y, hy⟩ : ∃ y, SL[h]? = some y := ⟨SL[h]'(hin h (List.mem_of_getElem? hh)), List.getElem?_eq_getElem _⟩
    have := callsIn_wide.1 (leaves_in 3 (Nat.le_refl _) P sb _ sv vb vs vh L SL HL k h y hh hy W (hR.gr hW) (hL.gr hW) (hS.gr hW) (hH.gr hW))
    have e : leaveB L SL HL (k : Int) = (leadsM L k).any (outB y) := by simp [leaveB, subOf, hh, hy]
    rw [e]
    exact this))
  rw [leastM_eq, ans] at k1
  generalize (leastX (begL Bg 0 Bg.length) (leaveB L SL HL) 82) = q at k1 ⊢
  go_enter Try.func33, Try.ntmps33
  go_wp2_with first | (go_at_call 29; refine k1.mono ?_; rintro e w' ⟨rfl, hw⟩)
  go_returns
  exact ⟨rfl, hw⟩
set_option maxHeartbeats 4000000 in
theorem check7_any (bb sb hb : Nat) (Bg : List Bool) (hLB : Bg.length = L.length) (SL : List (Nat × Nat)) (hne : SL ≠ []) (HL : List Nat) (hHL : HL.length = L.length) (hin : ∀ h ∈ HL, h < SL.length) (V : Nat → Prop) (hV0 : ∀ u, V u → u < L.length) (hV : ∀ u, V u → ∀ t ∈ leadsM L u, 0 ≤ t ∧ V t.toNat) (hVn : ∀ u, ¬ V u → leadsM L u = []) (hVS : ∀ x ∈ SL, V x.1)
    (hR : Rec w P sv vb vs vh) (hL : Slots AnyB w sv L) (hB : Bools w bb vb Bg) (hS : SubsAt w sb vs SL) (hH : HomeAt w hb vh HL) (hBl : Bp < w.heap.size) (hBp : w.cell? ⟨Bp, 0, none⟩ = some (.pointer (some ⟨P, 0, none⟩))) : Calls Try.prog 35 #[.pointer (some ⟨Bp, 0, none⟩)] w fun e w' => ∃ R : List Bool, (∀ j, isOn R j ↔ Rch (leadsN L) (SL.map (·.1)) j) ∧ e = .returned (ans (leastX (begL Bg 0 Bg.length) (fun x => missB R SL HL x.toNat) 84).1 (leastX (begL Bg 0 Bg.length) (fun x => missB R SL HL x.toNat) 84).2) ∧ Below w.heap.size w w' := by
  have hlen := hL.len
  have k79 := fun W (hW : Below w.heap.size w W) => missed_any P sb sv vb vs vh L SL hne V hV0 hV hVn hVS W (hR.gr hW) (hL.gr hW) (hS.gr hW)
  have k72 := fun W (hW : Below w.heap.size w W) (Bd Bp2 bl : Nat) (vl : Value) (R : List Bool) (c1 : W.cell? ⟨Bp2, 0, none⟩ = some (.pointer (some ⟨P, 0, none⟩))) (c2 : W.cell? ⟨Bd, 0, none⟩ = some vl) (l1 : Bp2 < W.heap.size) (l2 : Bd < W.heap.size) (hbl : Bools W bl vl R) (hRl : R.length = L.length) =>
    callsIn_wide.1 (least_in 3 (Nat.le_refl _) P bb sv vb vs vh L AnyB Bg (by omega) hLB 54 #[] #[.pointer (some ⟨Bd, 0, none⟩), .pointer (some ⟨Bp2, 0, none⟩)] (fun x => missB R SL HL x.toNat) 84 W (hR.gr hW) (hL.gr hW) (hB.gr hW).lt (hB.gr hW) (enters_of Try.func54 (by kernel_rfl) rfl) (fun x V' hx hV' => by
      obtain ⟨k, rfl, _, hk, _⟩ := begL_mem hx
      obtain ⟨h, hh⟩ : ∃ h, HL[k]? = some h := ⟨HL[k]'(by omega), List.getElem?_eq_getElem (by omega)⟩
      obtain ⟨y, hy⟩ : ∃ y, SL[h]? = some y := ⟨SL[h]'(hin h (List.mem_of_getElem? hh)), List.getElem?_eq_getElem _⟩
      have hW' := hW.trans (hV'.mono hW.size)
      exact missed2_any P Bp2 Bd bl sb _ sv vb vs vh vl R SL HL k h y hh hy (by omega) (by omega) V' (hR.gr hW') (hS.gr hW') (hH.gr hW') ((hV'.cell (p := ⟨Bp2, 0, none⟩) l1).trans c1) ((hV'.cell (p := ⟨Bd, 0, none⟩) l2).trans c2) (hbl.gr hV')))
  go_enter Try.func35, Try.ntmps35
  go_upto_region 1 with fail
  go_region_held3 (fun w' => w'.cell? ⟨Bp, 0, none⟩ = some (.pointer (some ⟨P, 0, none⟩))) (repeat (with_reducible (first | assumption | apply cell_dr))) (first | (go_at_call 36; refine (k79 _ (Below.refl _ w).drew).mono ?_; rintro e w1 ⟨Bd, Bp2, bl, vl, R, rfl, c1, c2, hbl, hRl, hRc, hb1, l1, l2⟩; have hbp1 : w1.cell? ⟨Bp, 0, none⟩ = some (.pointer (some ⟨P, 0, none⟩)) := (hb1.cell (p := ⟨Bp, 0, none⟩) hBl).trans hBp; have hbw1 : Below w.heap.size w w1 := (Below.refl _ w).drew.trans hb1) | (go_at_call 29; refine (k72 w1 hbw1 Bd Bp2 bl vl R c1 c2 l1 l2 hbl hRl).mono ?_; rw [leastM_eq, ans]; rintro e w2 ⟨rfl, hb2⟩; have hbp2 : w2.cell? ⟨Bp, 0, none⟩ = some (.pointer (some ⟨P, 0, none⟩)) := (hb2.cell (p := ⟨Bp, 0, none⟩) (Nat.lt_of_lt_of_le hBl hbw1.size)).trans hbp1))
  all_goals go_wp2_with fail
  all_goals go_returns
  all_goals exact ⟨R, hRc, by rw [hLB]; rfl, hbw1.trans (hb2.mono hbw1.size)⟩
end
end Go.Proofs.Ytdmdmbcapjmnlab
