/- Towards the statements of package code (layer 8): missed: to which instructions nothing leads. -/
import Derived.Test.YtdmdmbcapjmnlabCN
namespace Go.Proofs.Ytdmdmbcapjmnlab
open Go.ChangeShapes Go.WideShapes Go.ChangeAt
open Go.RowKit Go.Shelf
set_option linter.unusedVariables false
set_option linter.unusedSimpArgs false
set_option maxRecDepth 20000

theorem missed1_any (P Bp : Nat) (p : Option Addr) (n c : Nat) (vb vs vh : Value) (x : Int) (w : World) (hR : Rec w P (.slice p n c) vb vs vh) (hBp : w.cell? ⟨Bp, 0, none⟩ = some (.pointer (some ⟨P, 0, none⟩))) :
    Calls Try.prog 53 #[.int .i64 x, .pointer (some ⟨Bp, 0, none⟩)] w fun e w' => e = .returned (.func (.func 43) #[] #[.pointer (some ⟨w.heap.size, 0, none⟩), .pointer (some ⟨w.heap.size + 1, 0, none⟩)]) ∧ w' = (w.alloc (.cells #[.slice p n c] 22)).alloc (.cells #[.int .i64 x] 3) := by
  obtain ⟨r0, r1, r2, r3⟩ := hR.cells
  have k1 := leads_any p n c x w
  go_enter Try.func53, Try.ntmps53
  go_wp2_with (go_at_call 18; refine k1.mono ?_; rintro e w' ⟨rfl, hw⟩; rw [hw]; clear hw)
  go_returns
  exact ⟨rfl, rfl⟩
/-- Where an instruction leads, as slots. -/
def leadsN (L : List Sl) (u : Nat) : List Nat := (leadsM L u).map Int.toNat
theorem missed_leader (P Bp : Nat) (p : Option Addr) (c : Nat) (L : List Sl) (vb vs vh : Value) (V : Nat → Prop) (hV : ∀ u, V u → ∀ t ∈ leadsM L u, 0 ≤ t ∧ V t.toNat) (w : World) (hR : Rec w P (.slice p L.length c) vb vs vh) (hL : Slots AnyB w (.slice p L.length c) L) (hBl : Bp < w.heap.size) (hBp : w.cell? ⟨Bp, 0, none⟩ = some (.pointer (some ⟨P, 0, none⟩))) :
    Leader w V 53 #[] #[.pointer (some ⟨Bp, 0, none⟩)] (fun u => leadsN L u) := by
  refine ⟨enters_of Try.func53 (by kernel_rfl) rfl, fun u W hu hW => ?_⟩
  have hR' := hR.gr hW
  have hL' := hL.gr hW
  refine (missed1_any P Bp p L.length c vb vs vh u W hR' ((hW.cell (p := ⟨Bp, 0, none⟩) hBl).trans hBp)).mono ?_
  rintro e w' ⟨rfl, rfl⟩
  have hxs : ((leadsM L u).attach.map fun t => (⟨t.1.toNat, (hV u hu t.1 t.2).2⟩ : {t : Nat // V t})).map (fun x => ((x.1 : Nat) : Int)) = leadsM L u := by
    rw [List.map_map]
    refine Eq.trans (List.map_congr_left (g := fun t => t.1) fun t ht => ?_) (List.attach_map_subtype_val _)
    have := (hV u hu t.1 t.2).1
    simp only [Function.comp_apply]
    omega
  have hit := leads_iter (fun x : {t : Nat // V t} => ((x.1 : Nat) : Int)) _ (· < w.heap.size) p L.length c L u W ?_ hxs
  · refine ⟨43, _, _, _, 2, rfl, ((Below.refl _ W).alloc (Nat.le_refl _) _).alloc (by simp) _, hit.enters, fun q hq => hit.all q (by omega), ?_, by omega, hit.trans, fun A B hs hk _ => ⟨fun b hb => hk b ?_, hs⟩⟩
    · simp [leadsN, List.map_map, Function.comp_def]
    · simp
      rcases hb with rfl | rfl | ⟨h1, h2⟩ <;> omega
  · rcases hL.at' with ⟨e, e2⟩ | ⟨b, off, cap, e, _, hlt, hc⟩
    · exact ⟨hL.ok, hL.len, .inl ⟨e, e2⟩⟩
    · refine ⟨hL.ok, hL.len, .inr ⟨b, off, cap, e, hlt, Nat.lt_of_lt_of_le hlt hW.size, fun j x hx => (hc j x hx).below hlt hW⟩⟩
/-- Did nothing lead there? -/
def missB (R : List Bool) (SL : List (Nat × Nat)) (HL : List Nat) (k : Nat) : Bool := !(R[k]?.getD false) && !decide ((k : Int) = (((SL[HL[k]?.getD 0]?.getD (0, 0)).1 : Nat) : Int))
set_option maxHeartbeats 1000000 in
theorem missed2_any (P Bp Bd bl sb hb : Nat) (sv vb vs vh vl : Value) (R : List Bool) (SL : List (Nat × Nat)) (HL : List Nat) (k h : Nat) (x : Nat × Nat) (hh : HL[k]? = some h) (hxs : SL[h]? = some x) (hk : k < R.length) (hkl : R.length ≤ 4096)
    (w : World) (hR : Rec w P sv vb vs vh) (hS : SubsAt w sb vs SL) (hH : HomeAt w hb vh HL) (hBp : w.cell? ⟨Bp, 0, none⟩ = some (.pointer (some ⟨P, 0, none⟩))) (hBd : w.cell? ⟨Bd, 0, none⟩ = some vl) (hl : Bools w bl vl R) :
    Calls Try.prog 54 #[.int .i64 k, .pointer (some ⟨Bd, 0, none⟩), .pointer (some ⟨Bp, 0, none⟩)] w fun e w' => e = .returned (.bool (missB R SL HL k)) ∧ Below w.heap.size w w' := by
  obtain ⟨r0, r1, r2, r3⟩ := hR.cells
  obtain ⟨cs, rfl⟩ := hS.val
  obtain ⟨ch, rfl⟩ := hH.val
  obtain ⟨cl, rfl⟩ := hl.val
  obtain ⟨s0, s1⟩ := hS.cell h x hxs
  have t0 := hH.cell k h hh
  have l0 := hl.cell k hk
  have hk1 : k < HL.length := (List.getElem?_eq_some_iff.1 hh).1
  have hh1 : h < SL.length := (List.getElem?_eq_some_iff.1 hxs).1
  have hl1 := hS.len
  have hl2 := hH.len
  have hmb : missB R SL HL k = (!(R[k]?.getD false) && !decide ((k : Int) = (x.1 : Int))) := by simp [missB, hh, hxs]
  rw [hmb]
  cases hr : R[k]?.getD false with
  | true =>
    rw [hr] at l0
    go_enter Try.func54, Try.ntmps54
    go_upto_region 1 with fail
    go_quiet (fail)
    go_wp2
    go_returns
    exact ⟨rfl, (gr_drewN _ _).below⟩
  | false =>
    rw [hr] at l0
    go_enter Try.func54, Try.ntmps54
    go_upto_region 1 with fail
    go_quiet (fail)
    go_wp2
    go_returns
    exact ⟨ret_bool (by rw [Bool.eq_iff_iff]; simp), (gr_drewN _ _).below⟩
theorem cell_one_at {W : World} {x : Value} {t : TypeId} {b : Nat} (hb : b = W.heap.size) : ∀ (j : Nat) (u : Value), [x][j]? = some u → (W.alloc (.cells #[x] t)).cell? (Addr.add ⟨b, 0, none⟩ j) = some u := by
  subst hb; exact cell_one_new _ _ _
set_option maxHeartbeats 4000000 in
theorem missed_any (P sb : Nat) (sv vb vs vh : Value) (L : List Sl) (SL : List (Nat × Nat)) (hne : SL ≠ []) (V : Nat → Prop) (hV0 : ∀ u, V u → u < L.length) (hV : ∀ u, V u → ∀ t ∈ leadsM L u, 0 ≤ t ∧ V t.toNat) (hVn : ∀ u, ¬ V u → leadsM L u = []) (hVS : ∀ x ∈ SL, V x.1) (w : World) (hR : Rec w P sv vb vs vh) (hL : Slots AnyB w sv L) (hS : SubsAt w sb vs SL) :
    Calls Try.prog 36 #[.pointer (some ⟨P, 0, none⟩)] w fun e w' => ∃ Bd Bp bl vl R, e = .returned (.func (.func 54) #[] #[.pointer (some ⟨Bd, 0, none⟩), .pointer (some ⟨Bp, 0, none⟩)]) ∧ w'.cell? ⟨Bp, 0, none⟩ = some (.pointer (some ⟨P, 0, none⟩)) ∧ w'.cell? ⟨Bd, 0, none⟩ = some vl ∧ Bools w' bl vl R ∧ R.length = L.length ∧ (∀ j, isOn R j ↔ Rch (leadsN L) (SL.map (·.1)) j) ∧ Below w.heap.size w w' ∧ Bp < w'.heap.size ∧ Bd < w'.heap.size := by
  obtain ⟨p, c, rfl⟩ := hL.shape
  obtain ⟨cs, rfl⟩ := hS.val
  have hlen := hL.len
  have hl1 := hS.len
  obtain ⟨i3, hi3, hz30, hz31, hz32⟩ := info_parts info3
  have hb1 : Below w.heap.size w (w.alloc (.cells #[.pointer (some ⟨P, 0, none⟩)] 42)) := (Below.refl _ w).alloc (Nat.le_refl _) _
  have q0 : (w.alloc (.cells #[.pointer (some ⟨P, 0, none⟩)] 42)).cell? ⟨w.heap.size, 0, none⟩ = some (.pointer (some ⟨P, 0, none⟩)) := (Boxed.new w 42 _).cell
  have hs1 : (w.alloc (.cells #[.pointer (some ⟨P, 0, none⟩)] 42)).heap.size = w.heap.size + 1 := by simp
  have hR1 := hR.gr hb1
  have hS1 := hS.gr hb1
  obtain ⟨r0, r1, r2, r3⟩ := hR1.cells
  go_enter Try.func36, Try.ntmps36
  go_wp2_with fail
  go_loopw [12, 3] (fun i v wr => ∃ k : Nat, i = .int .i64 k ∧ k ≤ SL.length ∧ wr.ownsRow (w.heap.size + 1) 3 1 v k (((SL.map (·.1)).take k).map vN) ∧ Below (w.heap.size + 1) (w.alloc (.cells #[.pointer (some ⟨P, 0, none⟩)] 42)) wr)
    (fun i _ _ => SL.length - (intOf i).toNat)
  case atStart => exact ⟨0, rfl, Nat.zero_le _, by simpa using World.ownsRow_nil _ _ _ _, Below.refl _ _⟩
  case round =>
    obtain ⟨k, rfl, hk, hrow, hB⟩ := hrel
    by_cases hlt : k < SL.length
    · obtain ⟨x, hx⟩ : ∃ x, SL[k]? = some x := ⟨SL[k], by simp [hlt]⟩
      obtain ⟨s0, s1⟩ := (hS1.gr (hs1 ▸ hB)).cell k x hx
      have hd : decide ((k : Int) < SL.length) = true := by simp; omega
      have e1 : IntKind.i64.wrap ((k : Int) + 1) = (k : Int) + 1 := IntWalk.i64_in _ (by omega)
      have hba : Below wr.heap.size wr (wr.alloc (.cells #[.int .i64 (x.1 : Nat), .int .i64 (x.2 : Nat)] 37)) := (Below.refl _ _).alloc (Nat.le_refl _) _
      have hwr : w.heap.size + 1 ≤ wr.heap.size := by have := hB.size; simp at this; exact this
      go_wp2_with first | (refine wpList_append_own _ rfl _ _ 34 rfl (w.heap.size + 1) 3 i3 (.int .i64 0) 1 8 Try.underlying34 hi3 hz30 hz31 hz32 rfl (by decide) _ _ _ rfl ((ownsRow_gr hrow hba).alloc _) _ 1 1 [.int .i64 (x.1 : Nat)] rfl rfl (cell_one_at (by simp)) (by simp [Value.oneCell']) (by simp [maxLen]; omega) (by omega) (by simp; omega) ?_; intro v' wa hown' hgrow' _; obtain ⟨g', cap', rfl⟩ := ownsRow_succ hown')
      go_roundw
      case rel =>
        refine ⟨k + 1, by simp, by omega, ?_, ?_⟩
        · rw [List.take_succ_eq_append_getElem (by simpa using hlt)]
          have : SL[k] = x := by simpa [hlt] using hx
          simpa [this] using hown'
        · have hb2 : Below (w.heap.size + 1) _ ((wr.alloc (.cells #[.int .i64 (x.1 : Nat), .int .i64 (x.2 : Nat)] 37)).alloc (.cells #[.int .i64 (x.1 : Nat)] 3)) := (hB.alloc hwr _).alloc (by simp; omega) _
          exact hb2.grown hgrow' (by simp; omega) (fun q hq => (hrow.lt q hq).1)
      case measure => simp [intOf]; omega
    · obtain rfl : k = SL.length := by omega
      rw [List.take_of_length_le (by simp)] at hrow
      obtain ⟨g, gc, hv, hgc, hgB, hgl⟩ := row_shape hrow (fun e => by
        rcases hrow.2 with ⟨_, h0⟩ | ⟨g, cap, cur, hv, _⟩
        · exact hne (List.length_eq_zero_iff.1 h0)
        · rw [e] at hv; cases hv)
      rw [hv] at hrow ⊢
      have hwr : w.heap.size + 1 ≤ wr.heap.size := by have := hB.size; simp at this; exact this
      have hB0 : Below w.heap.size w wr := hb1.trans (hB.mono (by omega))
      have hRr := hR.gr hB0
      have hLr := hL.gr hB0
      have hbp : wr.cell? ⟨w.heap.size, 0, none⟩ = some (.pointer (some ⟨P, 0, none⟩)) := (hB.cell (p := ⟨w.heap.size, 0, none⟩) (by simp)).trans q0
      have hld := missed_leader P w.heap.size p c L vb _ vh V hV wr hRr hLr (by omega) hbp
      have hlf : (SL.map (·.1)).length = SL.length := by simp
      have kr := callsIn_wide.1 (reached_in 6 (Nat.le_refl _) L.length hlen 53 #[] #[.pointer (some ⟨w.heap.size, 0, none⟩)] (fun u => leadsN L u) V hV0 (fun u t ht => by
        by_cases hu : V u
        · obtain ⟨t', ht', rfl⟩ := List.mem_map.1 ht
          exact (hV u hu t' ht').2
        · rw [leadsN, hVn u hu] at ht; cases ht) (SL.map (·.1)) (fun u hu => by obtain ⟨x, hx, rfl⟩ := List.mem_map.1 hu; exact hVS x hx) (by simpa using hl1) g 0 gc wr hgl (fun j x hx => by
        rw [← hlf] at hrow
        simpa using row_cell hrow j x hx) (by simpa using hne) hld)
      rw [hlf] at kr
      obtain ⟨r0, r1, r2, r3⟩ := hRr.cells
      have hd : decide ((SL.length : Int) < SL.length) = false := by simp
      go_wp2_with first | (go_at_call 52; refine kr.mono ?_; rintro e w3 ⟨vl, bl, R, rfl, hBl, hRl, hRc, hb3⟩; obtain ⟨lc, hvl⟩ := hBl.val; rw [hRl] at hvl; subst hvl)
      go_returns
      have hba : Below w3.heap.size w3 (w3.alloc (.cells #[.slice (some ⟨bl, 0, none⟩) L.length lc] 43)) := (Below.refl _ _).alloc (Nat.le_refl _) _
      have hb4 := hB0.trans ((hb3.mono (by omega)).trans (hba.mono (Nat.le_trans (by omega) hb3.size)))
      exact ⟨_, _, bl, _, R, rfl, (hba.cell (p := ⟨w.heap.size, 0, none⟩) (by have := hb3.size; simp; omega)).trans ((hb3.cell (p := ⟨w.heap.size, 0, none⟩) (by simp; omega)).trans hbp), (Boxed.new w3 43 _).cell, hBl.gr hba, hRl, hRc, hb4, by have := hb3.size; simp; omega, by simp⟩
end Go.Proofs.Ytdmdmbcapjmnlab
