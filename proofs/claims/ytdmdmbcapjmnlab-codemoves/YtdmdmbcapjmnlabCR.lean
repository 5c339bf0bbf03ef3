/- Towards the statements of package code (layer 8): loops: does a subprogram call itself? The last of the checks. -/
import Derived.Test.YtdmdmbcapjmnlabCP
import Derived.Test.YtdmdmbcapjmnlabCQ
namespace Go.Proofs.Ytdmdmbcapjmnlab
open Go.ChangeShapes Go.WideShapes Go.ChangeAt
open Go.RowKit Go.Shelf
set_option linter.unusedVariables false
set_option linter.unusedSimpArgs false
set_option maxRecDepth 20000

/-- The subprograms that one calls. -/
def callsN (L : List Sl) (Bg : List Bool) (SL : List (Nat × Nat)) (HL : List Nat) (u : Nat) : List Nat := (begL Bg (SL[u]?.getD (0, 0)).1 (SL[u]?.getD (0, 0)).2).filterMap (callN L HL)
/-- What holds of the subprograms of a program that has come so far. -/
structure SubOk (L : List Sl) (Bg : List Bool) (SL : List (Nat × Nat)) (HL : List Nat) : Prop where
  lb : Bg.length = L.length
  hl : HL.length = L.length
  hin : ∀ h ∈ HL, h < SL.length
  up : ∀ x ∈ SL, x.1 ≤ x.2 ∧ x.2 ≤ L.length
  cal : ∀ y ∈ begL Bg 0 L.length, ∀ t, calleeM L y = some t → 0 ≤ t ∧ t < L.length
theorem begL_sub {Bg : List Bool} {a b n : Nat} (hb : b ≤ n) {x : Int} (h : x ∈ begL Bg a b) : x ∈ begL Bg 0 n := by
  obtain ⟨k, rfl, h1, h2, h3⟩ := begL_mem h
  unfold begL
  refine List.mem_map.2 ⟨k, List.mem_filter.2 ⟨?_, h3⟩, rfl⟩
  rw [List.mem_range']
  exact ⟨k, by omega, by omega⟩
theorem callsN_lt {L : List Sl} {Bg : List Bool} {SL : List (Nat × Nat)} {HL : List Nat} (ok : SubOk L Bg SL HL) (u : Nat) : ∀ t ∈ callsN L Bg SL HL u, t < SL.length := by
  intro t ht
  unfold callsN at ht
  obtain ⟨y, hy, hc⟩ := List.mem_filterMap.1 ht
  cases hu : SL[u]? with
  | none => rw [hu] at hy; simp [begL] at hy
  | some x =>
    rw [hu] at hy
    have hx := ok.up x (List.mem_of_getElem? hu)
    unfold callN at hc
    cases hq : calleeM L y with
    | none => rw [hq] at hc; cases hc
    | some c =>
      rw [hq] at hc
      have := ok.cal y (begL_sub hx.2 hy) c hq
      dsimp only at hc
      split at hc
      · cases hc
      · simp at hc
        have hlt : c.toNat < HL.length := by rw [ok.hl]; omega
        rw [List.getElem?_eq_getElem hlt] at hc
        simp at hc
        rw [← hc]
        exact ok.hin _ (List.getElem_mem hlt)
theorem calls_leader (P bb sb hb : Nat) (sv vb vs vh : Value) (L : List Sl) (Bg : List Bool) (SL : List (Nat × Nat)) (HL : List Nat) (ok : SubOk L Bg SL HL) (w : World) (hR : Rec w P sv vb vs vh) (hL : Slots AnyB w sv L) (hB : Bools w bb vb Bg) (hS : SubsAt w sb vs SL) (hH : HomeAt w hb vh HL) :
    Leader w (· < SL.length) 55 #[.pointer (some ⟨P, 0, none⟩)] #[] (fun u => callsN L Bg SL HL u) := by
  refine ⟨enters_of Try.func55 (by kernel_rfl) rfl, fun u W hu hW => ?_⟩
  refine (calls_any (some ⟨P, 0, none⟩) u W).mono ?_
  rintro e w' ⟨rfl, rfl⟩
  obtain ⟨x, hx⟩ : ∃ x, SL[u]? = some x := ⟨SL[u], by simp [hu]⟩
  have hxu := ok.up x (List.mem_of_getElem? hx)
  have hwW := hW.size
  have hbw : Below W.heap.size W ((W.alloc (.cells #[.pointer (some ⟨P, 0, none⟩)] 42)).alloc (.cells #[.int .i64 (u : Int)] 3)) := ((Below.refl _ W).alloc (Nat.le_refl _) _).alloc (by simp) _
  have hsz : ((W.alloc (.cells #[.pointer (some ⟨P, 0, none⟩)] 42)).alloc (.cells #[.int .i64 (u : Int)] 3)).heap.size = W.heap.size + 2 := by simp
  have c0 : ((W.alloc (.cells #[.pointer (some ⟨P, 0, none⟩)] 42)).alloc (.cells #[.int .i64 (u : Int)] 3)).cell? ⟨W.heap.size, 0, none⟩ = some (.pointer (some ⟨P, 0, none⟩)) := ((Boxed.new W 42 _).alloc _).cell
  have c1 : ((W.alloc (.cells #[.pointer (some ⟨P, 0, none⟩)] 42)).alloc (.cells #[.int .i64 (u : Int)] 3)).cell? ⟨W.heap.size + 1, 0, none⟩ = some (.int .i64 u) := by
    have := (Boxed.new (W.alloc (.cells #[.pointer (some ⟨P, 0, none⟩)] 42)) 3 (.int .i64 (u : Int))).cell
    rwa [World.size_alloc] at this
  generalize ((W.alloc (.cells #[.pointer (some ⟨P, 0, none⟩)] 42)).alloc (.cells #[.int .i64 (u : Int)] 3)) = w' at hbw hsz c0 c1 ⊢
  have hsu : callsN L Bg SL HL u = (begL Bg x.1 x.2).filterMap (callN L HL) := by rw [callsN, hx]; rfl
  have hw2 : Below w.heap.size w w' := hW.trans (hbw.mono hwW)
  refine ⟨69, _, (fun A B => Keep (fun b => b < w.heap.size ∨ b = W.heap.size ∨ b = W.heap.size + 1) A B ∧ A.heap.size ≤ B.heap.size ∧ TKeep A B), (callsN L Bg SL HL u).attach.map (fun t => ⟨t.1, callsN_lt ok u t.1 t.2⟩), 4096, rfl, hbw, enters_of Try.func69 (by kernel_rfl) rfl, fun q hq l J W1 hW1 hJ hY h0 => ?_, ?_, Nat.le_refl _, fun h k => ⟨h.1.trans k.1, Nat.le_trans h.2.1 k.2.1, h.2.2.trans k.2.2⟩, fun A B hs hk ht => ⟨fun b hb => hk b (by omega), hs, ht⟩⟩
  · have hSlt : ∀ b, (b < w.heap.size ∨ b = W.heap.size ∨ b = W.heap.size + 1) → b < W1.heap.size := fun b hb => by have := hW1.size; omega
    have hww : Below w.heap.size w W1 := hw2.trans (hW1.mono hw2.size)
    refine calls1_in (fun y : {t : Nat // t < SL.length} => ((y.1 : Nat) : Int)) q hq l W.heap.size (W.heap.size + 1) P bb sb hb (fun b => b < w.heap.size ∨ b = W.heap.size ∨ b = W.heap.size + 1) (.inr (.inl rfl)) (.inr (.inr rfl)) (.inl hR.lt) (.inl hB.lt) (.inl hS.lt) (.inl hH.lt) sv vb vs vh L Bg ok.lb SL HL ok.hl u x hx hxu.1 hxu.2 (fun y hy => ok.cal y (begL_sub hxu.2 hy)) _ ?_ J W1 hJ (fun pre y W2 hj hl => (hY pre y W2 hj hl).mono fun e W' h => ⟨h.1, h.2.1, h.2.2.1.1, h.2.2.1.2.1, h.2.2.1.2.2, kf_mono h.2.2.2 hW1.size⟩) h0 (fun a b e => Subtype.ext (Int.ofNat_inj.1 e)) hSlt (hR.gr hww) ?_ (hB.gr hww) (hS.gr hww) (hH.gr hww) ((hW1.cell (p := ⟨W.heap.size, 0, none⟩) (by simp; omega)).trans c0) ((hW1.cell (p := ⟨W.heap.size + 1, 0, none⟩) (by simp; omega)).trans c1)
    · rw [← hsu, List.map_map]
      have : (callsN L Bg SL HL u).map Int.ofNat = ((callsN L Bg SL HL u).attach.map Subtype.val).map Int.ofNat := by rw [List.attach_map_subtype_val]
      rw [this, List.map_map]
      rfl
    · rcases hL.at' with ⟨e, e2⟩ | ⟨b, off, cap, e, _, hlt, hc⟩
      · exact ⟨hL.ok, hL.len, .inl ⟨e, e2⟩⟩
      · exact ⟨hL.ok, hL.len, .inr ⟨b, off, cap, e, .inl hlt, Nat.lt_of_lt_of_le hlt hww.size, fun j x hx => (hc j x hx).below hlt hww⟩⟩
  · rw [List.map_map]
    exact List.attach_map_subtype_val _
/-- Does a subprogram begin there that calls itself? -/
noncomputable def loopB (L : List Sl) (Bg : List Bool) (SL : List (Nat × Nat)) (HL : List Nat) (k : Nat) : Bool := by
  classical exact decide (k = (SL[HL[k]?.getD 0]?.getD (0, 0)).1 ∧ Rch (callsN L Bg SL HL) [HL[k]?.getD 0] (HL[k]?.getD 0))
set_option maxHeartbeats 4000000 in
theorem loops_any (P bb sb hb : Nat) (sv vb vs vh : Value) (L : List Sl) (Bg : List Bool) (SL : List (Nat × Nat)) (HL : List Nat) (ok : SubOk L Bg SL HL) (k : Nat) (hk : k < L.length) (w : World) (hR : Rec w P sv vb vs vh) (hL : Slots AnyB w sv L) (hB : Bools w bb vb Bg) (hS : SubsAt w sb vs SL) (hH : HomeAt w hb vh HL) :
    Calls Try.prog 38 #[.pointer (some ⟨P, 0, none⟩), .int .i64 k] w fun e w' => e = .returned (.bool (loopB L Bg SL HL k)) ∧ Below w.heap.size w w' := by
  obtain ⟨r0, r1, r2, r3⟩ := hR.cells
  obtain ⟨h, hh⟩ : ∃ h, HL[k]? = some h := ⟨HL[k]'(by rw [ok.hl]; exact hk), List.getElem?_eq_getElem _⟩
  have hh1 : h < SL.length := ok.hin h (List.mem_of_getElem? hh)
  obtain ⟨x, hx⟩ : ∃ x, SL[h]? = some x := ⟨SL[h]'hh1, List.getElem?_eq_getElem _⟩
  have hkl : k < HL.length := by rw [ok.hl]; exact hk
  have hl1 := hS.len
  have hl2 := hH.len
  have hkk := fun W (hW : Below w.heap.size w W) => calls_leader P bb sb hb sv vb vs vh L Bg SL HL ok W (hR.gr hW) (hL.gr hW) (hB.gr hW) (hS.gr hW) (hH.gr hW)
  obtain ⟨cs, rfl⟩ := hS.val
  obtain ⟨ch, rfl⟩ := hH.val
  obtain ⟨s0, s1⟩ := hS.cell h x hx
  have t0 := hH.cell k h hh
  have hd2 : decide ((0 : Int) ≤ (k : Int) ∧ (k : Int) < (HL.length : Int)) = true := by simp; omega
  have hd3 : decide ((0 : Int) ≤ (h : Int) ∧ (h : Int) < (SL.length : Int)) = true := by simp; omega
  have hRh := fun W (hW : Below w.heap.size w W) (c : W.cell? ⟨w.heap.size, 0, none⟩ = some (.int .i64 (h : Int))) (hlt : w.heap.size < W.heap.size) => callsIn_wide.1 (reached_in 6 (Nat.le_refl _) SL.length (by omega) 55 #[.pointer (some ⟨P, 0, none⟩)] #[] (callsN L Bg SL HL) (· < SL.length) (fun _ h => h) (fun u t ht => callsN_lt ok u t ht) [h] (fun u hu => by simp at hu; omega) (by simp) w.heap.size 0 1 W hlt (fun j y hy => by
    cases j with
    | zero => simp at hy; subst hy; simpa [vN] using c
    | succ j => simp at hy) (by simp) (hkk W hW))
  have hcase : (k = x.1 ∧ ((k : Int) == (x.1 : Int)) = true) ∨ (¬ k = x.1 ∧ ((k : Int) == (x.1 : Int)) = false) := by
    by_cases hkx : k = x.1
    · exact .inl ⟨hkx, by simp [hkx]⟩
    · exact .inr ⟨hkx, by simp; omega⟩
  rcases hcase with ⟨hkx, hd⟩ | ⟨hkx, hd⟩
  · have e : loopB L Bg SL HL k = true ↔ Rch (callsN L Bg SL HL) [h] h := by simp only [loopB, hh, hx, Option.getD_some, decide_eq_true_eq]; exact ⟨fun h => h.2, fun h => ⟨hkx, h⟩⟩
    clear hkx
    have hw1 : Below w.heap.size w (w.alloc (.cells #[.int .i64 (h : Int)] 3)) := (Below.refl _ w).alloc (Nat.le_refl _) _
    go_enter Try.func38, Try.ntmps38
    go_wp2_with fail
    refine (hRh _ hw1 (Boxed.new w 3 _).cell (by simp)).mono ?_
    rintro e2 w2 ⟨v, bl, R, rfl, hbl, hRl, hRc, hb2⟩
    obtain ⟨cl, rfl⟩ := hbl.val
    have l0 := hbl.cell h (by omega)
    have hd4 : decide ((0 : Int) ≤ (h : Int) ∧ (h : Int) < (R.length : Int)) = true := by simp; omega
    have hh5 : h < R.length := by omega
    have hfin : loopB L Bg SL HL k = R[h]?.getD false := by
      rw [Bool.eq_iff_iff, e, ← hRc h]
    go_wp2_with fail
    go_returns
    exact ⟨by rw [hfin, List.getElem?_eq_getElem hh5]; rfl, hw1.trans (hb2.mono hw1.size)⟩
  · have e : loopB L Bg SL HL k = false := by simp [loopB, hh, hx, hkx]
    clear hkx
    go_enter Try.func38, Try.ntmps38
    go_wp2_with fail
    go_returns
    exact ⟨by rw [e]; rfl, Below.refl _ _⟩
theorem check8_any (P Bp : Nat) (sv vb vs vh : Value) (L : List Sl) (w : World) (bb sb hb : Nat) (Bg : List Bool) (SL : List (Nat × Nat)) (HL : List Nat) (ok : SubOk L Bg SL HL) (hR : Rec w P sv vb vs vh) (hL : Slots AnyB w sv L) (hB : Bools w bb vb Bg) (hS : SubsAt w sb vs SL) (hH : HomeAt w hb vh HL) (hBp : w.cell? ⟨Bp, 0, none⟩ = some (.pointer (some ⟨P, 0, none⟩))) : Calls Try.prog 37 #[.pointer (some ⟨Bp, 0, none⟩)] w fun e w' => e = .returned (ans (leastX (begL Bg 0 Bg.length) (fun x => loopB L Bg SL HL x.toNat) 83).1 (leastX (begL Bg 0 Bg.length) (fun x => loopB L Bg SL HL x.toNat) 83).2) ∧ Below w.heap.size w w' := by
  have hlen := hL.len
  have hLB := ok.lb
  have k1 := callsIn_wide.1 (least_in 3 (Nat.le_refl _) P bb sv vb vs vh L AnyB Bg (by omega) hLB 38 #[.pointer (some ⟨P, 0, none⟩)] #[] (fun x => loopB L Bg SL HL x.toNat) 83 w hR hL hB.lt hB (enters_of Try.func38 (by kernel_rfl) rfl) (fun x W hx hW => by
    obtain ⟨k, rfl, _, hk, hb⟩ := begL_mem hx
    exact loops_any P bb sb _ sv vb vs vh L Bg SL HL ok k (by omega) W (hR.gr hW) (hL.gr hW) (hB.gr hW) (hS.gr hW) (hH.gr hW)))
  rw [leastM_eq, ans] at k1
  generalize (leastX (begL Bg 0 Bg.length) (fun x => loopB L Bg SL HL x.toNat) 83) = q at k1 ⊢
  go_enter Try.func37, Try.ntmps37
  go_wp2_with first | (go_at_call 29; refine k1.mono ?_; rintro e w' ⟨rfl, hw⟩)
  go_returns
  exact ⟨rfl, hw⟩
end Go.Proofs.Ytdmdmbcapjmnlab
