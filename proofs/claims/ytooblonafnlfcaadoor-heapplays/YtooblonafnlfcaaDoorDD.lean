/- Towards HeapPlays and SlabPlays: the document's Take. -/
import Derived.Test.YtooblonafnlfcaaDoorDC
namespace Go.Proofs.YtooblonafnlfcaaDoor
open Go.ChangeShapes Go.WideShapes Go.ChangeAt Go.RowKit
set_option linter.unusedVariables false
set_option linter.unusedSimpArgs false
set_option maxRecDepth 20000
theorem dcutN (W : World) : (Instr.slice 78 (.slice none 0 0) none (some (.int .i64 0)) none).run Tryd.prog W = .ok (.slice none 0 0) W := by kernel_rfl
theorem dcutN2 (W : World) : (Instr.slice 78 (.slice none 0 0) (some (.int .i64 0)) none none).run Tryd.prog W = .ok (.slice none 0 0) W := by kernel_rfl
/-- The lowest number that no slot has. -/
def Lst (S : List Ds) (k : Nat) : Prop := k ≤ S.length ∧ (∀ j, j < k → ∃ x, S[j]? = some x ∧ x.1 = j) ∧ ∀ x, S[k]? = some x → x.1 ≠ k
theorem dr_n {B : Nat} {a w : World} (h : Below B a w) (n : Nat) : Below B a (w.drewN n) := h.trans ⟨rfl, rfl, rfl, Nat.le_refl _, fun _ _ => rfl⟩
theorem dtake_bad (w : World) (B r : Nat) (m : Int) (hc : clsM m = 0) :
    Calls Tryd.prog 34 #[.pointer (some ⟨r, 0, none⟩), .int .i64 m] w fun e w' => e = .returned (.tuple #[.int .i64 0, .int .i64 2]) ∧ w' = w := by
  have k1 := rclass_any m w
  rw [hc] at k1
  go_enter Tryd.func34, Tryd.ntmps34
  go_wp2_with (go_at_call 43; refine k1.mono ?_; rintro e w' ⟨rfl, hw⟩; rw [hw]; clear hw)
  all_goals go_returns
  all_goals exact ⟨rfl, rfl⟩
theorem dtake_full (w : World) (B r : Nat) (room : Int) (S : List Ds) (v : Value) (h : Rs w B r room S v) (m : Int) (hc : clsM m ≠ 0) (hf : room < dUse S + clsM m) :
    Calls Tryd.prog 34 #[.pointer (some ⟨r, 0, none⟩), .int .i64 m] w fun e w' => e = .returned (.tuple #[.int .i64 0, .int .i64 6]) ∧ Below w.heap.size w w' := by
  have k1 := rclass_any m w
  have k2 := fun n => dused_any (w.drewN n) B r room S v (h.below (dr_n (Below.refl _ w) n))
  have hl := h.len
  have hu := dUse_bd S
  have hcb := clsM_bd m
  have c0 : w.cell? ⟨r, 0, none⟩ = some (.int .i64 room) := by rw [cell_of h.cells]; rfl
  generalize clsM m = c at *
  generalize dUse S = u at *
  have e1 : IntKind.i64.wrap (u + c) = u + c := IntWalk.i64_in _ (by omega)
  have d0 : (c == 0) = false := by simpa using hc
  have d1 : decide (u + c > room) = true := decide_eq_true (by omega)
  have d2 : decide (room < u + c) = true := decide_eq_true (by omega)
  go_enter Tryd.func34, Tryd.ntmps34
  go_upto_region 4 with (go_at_call 43; refine k1.mono ?_; rintro e w' ⟨rfl, hw⟩; rw [hw]; clear hw)
  go_quiet (first | (go_at_call 20; exact Calls.quiet_of_same (k2 _)))
  have hW := dr_n (Below.refl w.heap.size w) nq
  generalize w.drewN nq = W at hW ⊢
  go_wp2
  all_goals go_returns
  all_goals exact ⟨rfl, hW⟩
/-- What Take leaves. -/
def DMk (w w' : World) (B r : Nat) (room : Int) (X : List Ds) (k s : Nat) (vX : Value) : Prop :=
  Lst X k ∧ (∃ vX', Rs w' B r room (X.take k ++ (k, List.replicate s 0) :: X.drop k) vX') ∧ Fd B r vX w w'
theorem DMk.frm {w0 w w' : World} {B r : Nat} {room : Int} {X : List Ds} {k s : Nat} {vX : Value} (h : DMk w w' B r room X k s vX) (hb : Below B w0 w) (he : w.heap = w0.heap) : DMk w0 w' B r room X k s vX :=
  ⟨h.1, h.2.1, ⟨hb.trans h.2.2.bel, fun k hk h1 h2 => by rw [h.2.2.keep k (by rw [he]; exact hk) h1 h2, he]⟩⟩
theorem rep_ok (s : Nat) : ∀ y ∈ List.replicate s (0 : Int), 0 ≤ y ∧ y ≤ 255 := fun y hy => by
  obtain ⟨-, rfl⟩ := List.mem_replicate.1 hy
  omega
theorem ins_ok {X : List Ds} (h : ∀ x ∈ X, x.1 ≤ 100000 ∧ 1 ≤ x.2.length ∧ x.2.length ≤ 128 ∧ ∀ y ∈ x.2, 0 ≤ y ∧ y ≤ 255) (k s : Nat) (hk : k ≤ 1000) (hs : 1 ≤ s ∧ s ≤ 128) :
    ∀ x ∈ X.take k ++ (k, List.replicate s 0) :: X.drop k, x.1 ≤ 100000 ∧ 1 ≤ x.2.length ∧ x.2.length ≤ 128 ∧ ∀ y ∈ x.2, 0 ≤ y ∧ y ≤ 255 := fun x hx => by
  rcases List.mem_append.1 hx with hx | hx
  · exact h x (List.mem_of_mem_take hx)
  · rcases List.mem_cons.1 hx with rfl | hx
    · exact ⟨by simp only; omega, by simp; omega, by simp; omega, rep_ok s⟩
    · exact h x (List.mem_of_mem_drop hx)
set_option maxHeartbeats 4000000 in
theorem dtake_ok (w0 : World) (B r : Nat) (room : Int) (X : List Ds) (vX : Value) (h0 : Rs w0 B r room X vX) (s : Nat) (hs : 1 ≤ s ∧ s ≤ 128) (hf : dUse X + clsM s ≤ room) (hX1 : X.length + 1 ≤ 1000) (hsome : ∃ g, vX.ownBlock = some g) :
    Calls Tryd.prog 34 #[.pointer (some ⟨r, 0, none⟩), .int .i64 s] w0 fun e w' => ∃ k : Nat, e = .returned (.tuple #[.int .i64 k, .int .i64 0]) ∧ DMk w0 w' B r room X k s vX := by
  have k1 := rclass_any (s : Int) w0
  have k2 := fun n => dused_any (w0.drewN n) B r room X vX (h0.below (dr_n (Below.refl _ w0) n))
  have h := h0
  have hl := h.len
  have hu := dUse_bd X
  have hcb := clsM_bd (s : Int)
  have hbs := h.bs
  have c00 : w0.cell? ⟨r, 0, none⟩ = some (.int .i64 room) := by rw [cell_of h.cells]; rfl
  have hc0 : clsM (s : Int) ≠ 0 := by have := cls_facts hs.1 hs.2; omega
  generalize clsM (s : Int) = c at *
  generalize dUse X = u at *
  have e1 : IntKind.i64.wrap (u + c) = u + c := IntWalk.i64_in _ (by omega)
  have d0 : (c == 0) = false := by simpa using hc0
  have d1 : decide (u + c > room) = false := decide_eq_false (by omega)
  have d2 : decide (room < u + c) = false := decide_eq_false (by omega)
  obtain ⟨i92, hi92, hz0, hz1, hz2⟩ := H.info_parts info92
  obtain ⟨ss, hss⟩ : ∃ ss, ss = strOfNums (List.replicate s 0) := ⟨_, rfl⟩
  have hcv : ∀ W : World, (convert 65 9 (.slice (some ⟨W.heap.size, 0, none⟩) s s)).run Tryd.prog (W.alloc (.cells (byV (List.replicate s 0)) 5)) = .ok (.string ss) (W.alloc (.cells (byV (List.replicate s 0)) 5)) := fun W => by
    rw [hss]; exact conv_row (heap_alloc_new W _) (by simp)
  have hmk := make5 s hs
  replace hss : Hid _ := hss
  replace hs : Hid _ := hs
  obtain ⟨gX, hgX⟩ := hsome
  obtain ⟨cX, rfl, hcX⟩ : ∃ cX, vX = .slice (some ⟨gX, 0, none⟩) X.length cX ∧ X.length ≤ cX := by
    rcases h.row.2 with ⟨e, _⟩ | ⟨g', cap, cur, e, _, _, h3, _⟩
    · subst e; cases hgX
    · subst e
      simp only [Value.ownBlock, Option.some.injEq] at hgX
      subst hgX
      exact ⟨cap, rfl, h3⟩
  go_enter Tryd.func34, Tryd.ntmps34
  go_upto_region 4 with (go_at_call 43; refine k1.mono ?_; rintro e w' ⟨rfl, hw⟩; rw [hw]; clear hw)
  go_quiet (first | (go_at_call 20; exact Calls.quiet_of_same (k2 _)))
  have hb := dr_n (Below.refl w0.heap.size w0) nq
  replace h := h.below hb
  have he : Hid ((w0.drewN nq).heap = w0.heap) := rfl
  replace hb := hb.mono h0.size
  generalize w0.drewN nq = w at hb he h ⊢
  have hBw := h.size
  have hrW := heap_lt h.cells
  have c0 : w.cell? ⟨r, 1, none⟩ = some (.slice (some ⟨gX, 0, none⟩) X.length cX) := by rw [cell_of h.cells]; rfl
  go_wp2
  clear k1 k2 e1 d0 d1 d2
  go_loopw [7] (fun n7 wr => ∃ k : Nat, n7 = .int .i64 k ∧ k ≤ X.length ∧ (∀ j, j < k → ∃ x, X[j]? = some x ∧ x.1 = j) ∧ wr = w) (fun n7 _ => X.length - (valOf n7).toNat)
  case atStart => exact ⟨0, rfl, by omega, fun j hj => by omega, rfl⟩
  case round =>
    obtain ⟨k, rfl, hk, hlo, hw⟩ := hrel
    rw [hw]; clear hw
    by_cases hin : k < X.length
    · have d : decide ((k : Int) < X.length) = true := by simp; omega
      have e9 : IntKind.i64.wrap ((k : Int) + 1) = (k : Int) + 1 := IntWalk.i64_in _ (by omega)
      obtain ⟨g, x, hx, hgl, hgo, hc0, hc1, hai⟩ := idx92 h.row hin (by omega)
      obtain ⟨xs, xg⟩ := x
      simp only at hc0 hc1
      by_cases hlt : xs = k
      · have d2 : ((xs : Int) == (k : Int)) = true := by simp; omega
        replace hlo : Hid _ := hlo
        replace hlt : Hid _ := hlt
        go_wp2
        refine ⟨⟨k + 1, by simp, by omega, fun j hj => ?_, by trivial⟩, by simp [valOf]; omega⟩
        by_cases e : j = k
        · subst e; exact ⟨_, hx, hlt.out⟩
        · exact hlo.out j (by omega)
      · have d2 : ((xs : Int) == (k : Int)) = false := by simp; omega
        have hst : ∀ x, X[k]? = some x → x.1 ≠ k := fun y hy => by rw [hx] at hy; cases hy; exact hlt
        replace hlo : Hid _ := hlo
        replace hst : Hid _ := hst
        go_upto_region 10 with fail
        clear d d2 hai hc0 hc1
        replace hin : Hid _ := hin
        have q1 := dcutH gX X.length cX k (by omega) w
        have hn1 := dnews_row h.row 0 k (by omega)
        rw [List.drop_zero] at hn1
        go_upto_region 11 with (at_builtin; refine wpList_append_own_at _ rfl _ _ 78 rfl w.heap.size 92 i92 (.agg #[.int .i64 0, .string ⟨#[]⟩]) 2 24 Tryd.underlying78 hi92 hz0 hz1 hz2 rfl (by decide) (.slice none 0 0) 0 [] rfl (World.ownsRow_nil _ _ _ _) ⟨gX, 0, none⟩ k cX (dCells (X.take k)) rfl (by rw [dCells_len]; simp; omega) hn1 (dCells_one _) (by simp [maxLen]; omega) (by omega) (Nat.le_refl _) ?_; go_loud (intro v2 w2 hown2 hgrow2 hnil2 hloc2; rw [Nat.zero_add, List.nil_append] at hown2; obtain ⟨p2, c2, rfl⟩ : ∃ p cap, v2 = .slice p k cap := H.own_shape hown2))
        have hk2 : ∀ i, i < w.heap.size → w2.heap[i]? = w.heap[i]? := fun i hi => hgrow2.block i hi (by simp [Value.ownBlock])
        have hw2 : w.heap.size ≤ w2.heap.size := hgrow2.size
        have hcv2 := hcv w2
        have hmk2 := hmk w2
        clear q1 hn1
        go_upto_region 12 with (at_builtin; refine wpList_append_own_at _ rfl _ _ 78 rfl w.heap.size 92 i92 (.agg #[.int .i64 0, .string ⟨#[]⟩]) 2 24 Tryd.underlying78 hi92 hz0 hz1 hz2 rfl (by decide) (.slice p2 k c2) k (dCells (X.take k)) rfl ((hown2.alloc _).alloc _) _ 1 1 [.int .i64 k, .string ss] rfl rfl (H.news_new _ _ _ _ (by simp)) (by simp [Value.oneCell']) (by simp [maxLen]; omega) (by omega) (by simp; omega) ?_; go_loud (intro v3 w3 hown3 hgrow3 hnil3 hloc3; obtain ⟨p3, c3, rfl⟩ : ∃ p cap, v3 = .slice p (k + 1) cap := H.own_shape hown3))
        have hk3 : ∀ i, i < w.heap.size → w3.heap[i]? = w.heap[i]? := fun i hi => (((hgrow3.block i (by simp; omega) (fun e => by have := (hown2.lt i e.symm).1; omega)).trans (Below.heap_alloc _ _ _ (by simp; omega))).trans (Below.heap_alloc _ _ _ (by omega))).trans (hk2 i hi)
        have hw3 : w.heap.size ≤ w3.heap.size := by have := hgrow3.size; simp at this; omega
        have c0' : w3.cell? ⟨r, 1, none⟩ = some (.slice (some ⟨gX, 0, none⟩) X.length cX) := by rw [cell_of ((hk3 r hrW).trans h.cells)]; rfl
        obtain ⟨ad, had, q2⟩ := dcutL gX X.length cX k (by omega) hcX
        have q2' := q2 w3
        have hrX3 : w3.ownsRow B 92 2 (.slice (some ⟨gX, 0, none⟩) X.length cX) X.length (dCells X) := row_kept h.row fun g' hg' => hk3 _ (h.row.lt g' hg').2
        have hn2 : ∀ (j : Nat) (u : Value), (dCells (X.drop k))[j]? = some u → w3.cell? (ad.add j) = some u := by
          by_cases e : k < X.length
          · have := dnews_row hrX3 k (X.length - k) (by omega)
            rw [List.take_of_length_le (by simp)] at this
            rw [had e]
            exact this
          · intro j u hu
            rw [List.drop_of_length_le (by omega)] at hu
            simp [dCells] at hu
        clear q2 hcv2 hmk2
        go_upto_region 13 with (at_builtin; refine wpList_append_own_at _ rfl _ _ 78 rfl w.heap.size 92 i92 (.agg #[.int .i64 0, .string ⟨#[]⟩]) 2 24 Tryd.underlying78 hi92 hz0 hz1 hz2 rfl (by decide) (.slice p3 (k + 1) c3) (k + 1) (dCells (X.take k) ++ [.int .i64 k, .string ss]) rfl hown3 ad (X.length - k) (cX - k) (dCells (X.drop k)) rfl (by rw [dCells_len]; simp) hn2 (dCells_one _) (by simp [maxLen]; omega) (by omega) hw3 ?_; go_loud (intro v4 w4 hown4 hgrow4 hnil4 hloc4; obtain ⟨p4, c4, rfl⟩ : ∃ p cap, v4 = .slice p (k + 1 + (X.length - k)) cap := H.own_shape hown4; have hr4 : w4.heap[r]? = some (.cells #[.int .i64 room, .slice (some ⟨gX, 0, none⟩) X.length cX] 80 (0, 0)) := (by rw [hgrow4.block r (by omega) (fun e => by have := (hown3.lt r e.symm).1; omega)]; exact (hk3 r hrW).trans h.cells); have c04 := cell_of hr4 1; have f04 := froz_of hr4 1; simp at c04))
        have hk4 : ∀ i, i < w.heap.size → w4.heap[i]? = w.heap[i]? := fun i hi => (hgrow4.block i (by omega) (fun e => by have := (hown3.lt i e.symm).1; omega)).trans (hk3 i hi)
        have hlen : (X.take k ++ (k, List.replicate s 0) :: X.drop k).length = k + 1 + (X.length - k) := by simp; omega
        have hR := h.putS (W := w4) (X' := X.take k ++ (k, List.replicate s 0) :: X.drop k) (vX' := .slice p4 (k + 1 + (X.length - k)) c4) hk4 (by
          rw [hlen, dCells_app]
          have := drow_base hown4 hBw
          simp only [dCells]
          rw [← hss.out]
          rw [List.append_assoc] at this
          exact this) (fun g' hg' => (hown4.lt g' hg').1) (by omega) (ins_ok hbs k s (by omega) hs.out)
        have hw4 : w.heap.size ≤ w4.heap.size := Nat.le_trans hw3 hgrow4.size
        have hrB : B ≤ r := h.rB
        have hF : Fd B r (.slice (some ⟨gX, 0, none⟩) X.length cX) w (w4.setCell ⟨r, 1, none⟩ (.slice p4 (k + 1 + (X.length - k)) c4)) := by
          refine ⟨⟨?_, ?_, ?_, ?_, fun i hi => ?_⟩, fun i hi h1' _ => ?_⟩
          · exact hgrow4.os.trans (hgrow3.os.trans hgrow2.os)
          · exact hgrow4.tape.trans (hgrow3.tape.trans hgrow2.tape)
          · exact hgrow4.output.trans (hgrow3.output.trans hgrow2.output)
          · simp [World.setCell]; omega
          · rw [Below.heap_setCell _ _ _ _ (by simp; omega), hk4 i (by omega)]
          · rw [Below.heap_setCell _ _ _ _ (by simpa using h1'), hk4 i hi]
        have hout : Hid (DMk w (w4.setCell ⟨r, 1, none⟩ (.slice p4 (k + 1 + (X.length - k)) c4)) B r room X k s (.slice (some ⟨gX, 0, none⟩) X.length cX)) := ⟨⟨by omega, hlo.out, hst.out⟩, ⟨_, hR⟩, hF⟩
        clear c04 f04 q2' c0' hR hF
        generalize w4.setCell ⟨r, 1, none⟩ (.slice p4 (k + 1 + (X.length - k)) c4) = W5 at hout ⊢
        go_wp2
        all_goals go_returns
        all_goals exact ⟨k, rfl, hout.out.frm hb he.out⟩
    · have d : decide ((k : Int) < X.length) = false := by simp; omega
      have hst : ∀ x, X[k]? = some x → x.1 ≠ k := fun y hy => by rw [List.getElem?_eq_none (by omega)] at hy; cases hy
      replace hlo : Hid _ := hlo
      replace hst : Hid _ := hst
      go_upto_region 10 with fail
      clear d
      have q1 := dcutH gX X.length cX k (by omega) w
      have hn1 := dnews_row h.row 0 k (by omega)
      rw [List.drop_zero] at hn1
      go_upto_region 11 with (at_builtin; refine wpList_append_own_at _ rfl _ _ 78 rfl w.heap.size 92 i92 (.agg #[.int .i64 0, .string ⟨#[]⟩]) 2 24 Tryd.underlying78 hi92 hz0 hz1 hz2 rfl (by decide) (.slice none 0 0) 0 [] rfl (World.ownsRow_nil _ _ _ _) ⟨gX, 0, none⟩ k cX (dCells (X.take k)) rfl (by rw [dCells_len]; simp; omega) hn1 (dCells_one _) (by simp [maxLen]; omega) (by omega) (Nat.le_refl _) ?_; go_loud (intro v2 w2 hown2 hgrow2 hnil2 hloc2; rw [Nat.zero_add, List.nil_append] at hown2; obtain ⟨p2, c2, rfl⟩ : ∃ p cap, v2 = .slice p k cap := H.own_shape hown2))
      have hk2 : ∀ i, i < w.heap.size → w2.heap[i]? = w.heap[i]? := fun i hi => hgrow2.block i hi (by simp [Value.ownBlock])
      have hw2 : w.heap.size ≤ w2.heap.size := hgrow2.size
      have hcv2 := hcv w2
      have hmk2 := hmk w2
      clear q1 hn1
      go_upto_region 12 with (at_builtin; refine wpList_append_own_at _ rfl _ _ 78 rfl w.heap.size 92 i92 (.agg #[.int .i64 0, .string ⟨#[]⟩]) 2 24 Tryd.underlying78 hi92 hz0 hz1 hz2 rfl (by decide) (.slice p2 k c2) k (dCells (X.take k)) rfl ((hown2.alloc _).alloc _) _ 1 1 [.int .i64 k, .string ss] rfl rfl (H.news_new _ _ _ _ (by simp)) (by simp [Value.oneCell']) (by simp [maxLen]; omega) (by omega) (by simp; omega) ?_; go_loud (intro v3 w3 hown3 hgrow3 hnil3 hloc3; obtain ⟨p3, c3, rfl⟩ : ∃ p cap, v3 = .slice p (k + 1) cap := H.own_shape hown3))
      have hk3 : ∀ i, i < w.heap.size → w3.heap[i]? = w.heap[i]? := fun i hi => (((hgrow3.block i (by simp; omega) (fun e => by have := (hown2.lt i e.symm).1; omega)).trans (Below.heap_alloc _ _ _ (by simp; omega))).trans (Below.heap_alloc _ _ _ (by omega))).trans (hk2 i hi)
      have hw3 : w.heap.size ≤ w3.heap.size := by have := hgrow3.size; simp at this; omega
      have c0' : w3.cell? ⟨r, 1, none⟩ = some (.slice (some ⟨gX, 0, none⟩) X.length cX) := by rw [cell_of ((hk3 r hrW).trans h.cells)]; rfl
      obtain ⟨ad, had, q2⟩ := dcutL gX X.length cX k (by omega) hcX
      have q2' := q2 w3
      have hrX3 : w3.ownsRow B 92 2 (.slice (some ⟨gX, 0, none⟩) X.length cX) X.length (dCells X) := row_kept h.row fun g' hg' => hk3 _ (h.row.lt g' hg').2
      have hn2 : ∀ (j : Nat) (u : Value), (dCells (X.drop k))[j]? = some u → w3.cell? (ad.add j) = some u := by
        by_cases e : k < X.length
        · have := dnews_row hrX3 k (X.length - k) (by omega)
          rw [List.take_of_length_le (by simp)] at this
          rw [had e]
          exact this
        · intro j u hu
          rw [List.drop_of_length_le (by omega)] at hu
          simp [dCells] at hu
      clear q2 hcv2 hmk2
      go_upto_region 13 with (at_builtin; refine wpList_append_own_at _ rfl _ _ 78 rfl w.heap.size 92 i92 (.agg #[.int .i64 0, .string ⟨#[]⟩]) 2 24 Tryd.underlying78 hi92 hz0 hz1 hz2 rfl (by decide) (.slice p3 (k + 1) c3) (k + 1) (dCells (X.take k) ++ [.int .i64 k, .string ss]) rfl hown3 ad (X.length - k) (cX - k) (dCells (X.drop k)) rfl (by rw [dCells_len]; simp) hn2 (dCells_one _) (by simp [maxLen]; omega) (by omega) hw3 ?_; go_loud (intro v4 w4 hown4 hgrow4 hnil4 hloc4; obtain ⟨p4, c4, rfl⟩ : ∃ p cap, v4 = .slice p (k + 1 + (X.length - k)) cap := H.own_shape hown4; have hr4 : w4.heap[r]? = some (.cells #[.int .i64 room, .slice (some ⟨gX, 0, none⟩) X.length cX] 80 (0, 0)) := (by rw [hgrow4.block r (by omega) (fun e => by have := (hown3.lt r e.symm).1; omega)]; exact (hk3 r hrW).trans h.cells); have c04 := cell_of hr4 1; have f04 := froz_of hr4 1; simp at c04))
      have hk4 : ∀ i, i < w.heap.size → w4.heap[i]? = w.heap[i]? := fun i hi => (hgrow4.block i (by omega) (fun e => by have := (hown3.lt i e.symm).1; omega)).trans (hk3 i hi)
      have hlen : (X.take k ++ (k, List.replicate s 0) :: X.drop k).length = k + 1 + (X.length - k) := by simp; omega
      have hR := h.putS (W := w4) (X' := X.take k ++ (k, List.replicate s 0) :: X.drop k) (vX' := .slice p4 (k + 1 + (X.length - k)) c4) hk4 (by
        rw [hlen, dCells_app]
        have := drow_base hown4 hBw
        simp only [dCells]
        rw [← hss.out]
        rw [List.append_assoc] at this
        exact this) (fun g' hg' => (hown4.lt g' hg').1) (by omega) (ins_ok hbs k s (by omega) hs.out)
      have hw4 : w.heap.size ≤ w4.heap.size := Nat.le_trans hw3 hgrow4.size
      have hrB : B ≤ r := h.rB
      have hF : Fd B r (.slice (some ⟨gX, 0, none⟩) X.length cX) w (w4.setCell ⟨r, 1, none⟩ (.slice p4 (k + 1 + (X.length - k)) c4)) := by
        refine ⟨⟨?_, ?_, ?_, ?_, fun i hi => ?_⟩, fun i hi h1' _ => ?_⟩
        · exact hgrow4.os.trans (hgrow3.os.trans hgrow2.os)
        · exact hgrow4.tape.trans (hgrow3.tape.trans hgrow2.tape)
        · exact hgrow4.output.trans (hgrow3.output.trans hgrow2.output)
        · simp [World.setCell]; omega
        · rw [Below.heap_setCell _ _ _ _ (by simp; omega), hk4 i (by omega)]
        · rw [Below.heap_setCell _ _ _ _ (by simpa using h1'), hk4 i hi]
      have hout : Hid (DMk w (w4.setCell ⟨r, 1, none⟩ (.slice p4 (k + 1 + (X.length - k)) c4)) B r room X k s (.slice (some ⟨gX, 0, none⟩) X.length cX)) := ⟨⟨by omega, hlo.out, hst.out⟩, ⟨_, hR⟩, hF⟩
      clear c04 f04 q2' c0' hR hF
      generalize w4.setCell ⟨r, 1, none⟩ (.slice p4 (k + 1 + (X.length - k)) c4) = W5 at hout ⊢
      go_wp2
      all_goals go_returns
      all_goals exact ⟨k, rfl, hout.out.frm hb he.out⟩
set_option maxHeartbeats 4000000 in
theorem dtake_first (w0 : World) (B r : Nat) (room : Int) (h0 : Rs w0 B r room [] (.slice none 0 0)) (s : Nat) (hs : 1 ≤ s ∧ s ≤ 128) (hf : clsM s ≤ room) :
    Calls Tryd.prog 34 #[.pointer (some ⟨r, 0, none⟩), .int .i64 s] w0 fun e w' => ∃ k : Nat, e = .returned (.tuple #[.int .i64 k, .int .i64 0]) ∧ DMk w0 w' B r room [] k s (.slice none 0 0) := by
  have k1 := rclass_any (s : Int) w0
  have k2 := fun n => dused_any (w0.drewN n) B r room [] _ (h0.below (dr_n (Below.refl _ w0) n))
  have h := h0
  have hl := h.len
  have hu := dUse_bd []
  simp only [dUse] at k2 hu
  have hcb := clsM_bd (s : Int)
  have hbs := h.bs
  have c00 : w0.cell? ⟨r, 0, none⟩ = some (.int .i64 room) := by rw [cell_of h.cells]; rfl
  have hc0 : clsM (s : Int) ≠ 0 := by have := cls_facts hs.1 hs.2; omega
  generalize clsM (s : Int) = c at *
  have e1 : IntKind.i64.wrap (0 + c) = 0 + c := IntWalk.i64_in _ (by omega)
  have d0 : (c == 0) = false := by simpa using hc0
  have d1 : decide (0 + c > room) = false := decide_eq_false (by omega)
  have d2 : decide (room < 0 + c) = false := decide_eq_false (by omega)
  obtain ⟨i92, hi92, hz0, hz1, hz2⟩ := H.info_parts info92
  obtain ⟨ss, hss⟩ : ∃ ss, ss = strOfNums (List.replicate s 0) := ⟨_, rfl⟩
  have hcv : ∀ W : World, (convert 65 9 (.slice (some ⟨W.heap.size, 0, none⟩) s s)).run Tryd.prog (W.alloc (.cells (byV (List.replicate s 0)) 5)) = .ok (.string ss) (W.alloc (.cells (byV (List.replicate s 0)) 5)) := fun W => by
    rw [hss]; exact conv_row (heap_alloc_new W _) (by simp)
  have hmk := make5 s hs
  replace hss : Hid _ := hss
  replace hs : Hid _ := hs
  go_enter Tryd.func34, Tryd.ntmps34
  go_upto_region 4 with (go_at_call 43; refine k1.mono ?_; rintro e w' ⟨rfl, hw⟩; rw [hw]; clear hw)
  go_quiet (first | (go_at_call 20; exact Calls.quiet_of_same (k2 _)))
  have hb := dr_n (Below.refl w0.heap.size w0) nq
  replace h := h.below hb
  have he : Hid ((w0.drewN nq).heap = w0.heap) := rfl
  replace hb := hb.mono h0.size
  generalize w0.drewN nq = w at hb he h ⊢
  have hBw := h.size
  have hrW := heap_lt h.cells
  have c0 : w.cell? ⟨r, 1, none⟩ = some (.slice none 0 0) := by rw [cell_of h.cells]; rfl
  have q1 := dcutN w
  go_wp2
  clear k1 k2
  refine wp_loop_rounds 2 ?_
  rw [rounds_succ]
  go_upto_region 11 with (at_builtin; refine wpList_append_own_none rfl _ _ 78 rfl w.heap.size 92 i92 2 Tryd.underlying78 hi92 (.slice none 0 0) 0 [] rfl (World.ownsRow_nil _ _ _ _) rfl ?_)
  have hcv2 := hcv w
  have hmk2 := hmk w
  go_upto_region 12 with (at_builtin; refine wpList_append_own_at _ rfl _ _ 78 rfl w.heap.size 92 i92 (.agg #[.int .i64 0, .string ⟨#[]⟩]) 2 24 Tryd.underlying78 hi92 hz0 hz1 hz2 rfl (by decide) (.slice none 0 0) 0 [] rfl (World.ownsRow_nil _ _ _ _) _ 1 1 [.int .i64 0, .string ss] rfl rfl (H.news_new _ _ _ _ (by simp)) (by simp [Value.oneCell']) (by simp [maxLen]) (by omega) (by simp; omega) ?_; go_loud (intro v3 w3 hown3 hgrow3 hnil3 hloc3; rw [Nat.zero_add, List.nil_append] at hown3; obtain ⟨p3, c3, rfl⟩ : ∃ p cap, v3 = .slice p 1 cap := H.own_shape hown3))
  have hk3 : ∀ i, i < w.heap.size → w3.heap[i]? = w.heap[i]? := fun i hi => ((hgrow3.block i (by simp; omega) (by simp [Value.ownBlock])).trans (Below.heap_alloc _ _ _ (by simp; omega))).trans (Below.heap_alloc _ _ _ hi)
  have hw3 : w.heap.size ≤ w3.heap.size := by have := hgrow3.size; simp at this; omega
  have hr3 : w3.heap[r]? = some (.cells #[.int .i64 room, .slice none 0 0] 80 (0, 0)) := (hk3 r hrW).trans h.cells
  have c03 := cell_of hr3 1
  have f03 := froz_of hr3 1
  simp at c03
  have q2 := dcutN2 w3
  clear q1 c0 hcv2 hmk2
  go_upto_region 13 with (at_builtin; refine wpList_append_own_none rfl _ _ 78 rfl w.heap.size 92 i92 2 Tryd.underlying78 hi92 (.slice p3 1 c3) 1 [.int .i64 0, .string ss] rfl hown3 rfl ?_)
  have hR := h.putS (W := w3) (X' := [(0, List.replicate s 0)]) (vX' := .slice p3 1 c3) hk3 (by
    have := drow_base hown3 hBw
    simp only [dCells, List.length_singleton]
    rw [← hss.out]
    exact this) (fun g' hg' => (hown3.lt g' hg').1) (by simp) (fun x hx => by
      obtain rfl := List.mem_singleton.1 hx
      have := hs.out
      exact ⟨by simp, by simp; omega, by simp; omega, rep_ok s⟩)
  have hrB : B ≤ r := h.rB
  have hF : Fd B r (.slice none 0 0) w (w3.setCell ⟨r, 1, none⟩ (.slice p3 1 c3)) := by
    refine ⟨⟨?_, ?_, ?_, ?_, fun i hi => ?_⟩, fun i hi h1' _ => ?_⟩
    · exact hgrow3.os
    · exact hgrow3.tape
    · exact hgrow3.output
    · simp [World.setCell]; omega
    · rw [Below.heap_setCell _ _ _ _ (by simp; omega), hk3 i (by omega)]
    · rw [Below.heap_setCell _ _ _ _ (by simpa using h1'), hk3 i hi]
  have hout : Hid (DMk w (w3.setCell ⟨r, 1, none⟩ (.slice p3 1 c3)) B r room [] 0 s (.slice none 0 0)) := ⟨⟨by simp, fun j hj => by omega, fun x hx => by simp at hx⟩, ⟨_, hR⟩, hF⟩
  clear c03 f03 q2 hR hF
  generalize w3.setCell ⟨r, 1, none⟩ (.slice p3 1 c3) = W5 at hout ⊢
  go_wp2
  all_goals go_returns
  all_goals exact ⟨0, by simp, hout.out.frm hb he.out⟩
theorem dtake_any (w : World) (B r : Nat) (room : Int) (X : List Ds) (vX : Value) (h : Rs w B r room X vX) (s : Nat) (hs : 1 ≤ s ∧ s ≤ 128) (hf : dUse X + clsM s ≤ room) (hX1 : X.length + 1 ≤ 1000) :
    Calls Tryd.prog 34 #[.pointer (some ⟨r, 0, none⟩), .int .i64 s] w fun e w' => ∃ k : Nat, e = .returned (.tuple #[.int .i64 k, .int .i64 0]) ∧ DMk w w' B r room X k s vX := by
  rcases h.row.2 with ⟨e1, e2⟩ | ⟨g, cap, cur, e1, _⟩
  · have : X = [] := List.eq_nil_of_length_eq_zero e2
    subst this e1
    exact dtake_first w B r room h s hs (by simpa [dUse] using hf)
  · exact dtake_ok w B r room X vX h s hs hf hX1 ⟨g, by rw [e1]; rfl⟩
end Go.Proofs.YtooblonafnlfcaaDoor
