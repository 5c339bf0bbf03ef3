/- SlabReuse: the least slot that is free is taken next, whichever were given, in whatever order (P12.1), for every number of takes and every row of gives: the statement as given, its table of classes tied to the text of the program. No condition beside those of the card itself. -/
import Derived.Test.YtkjdnebmhljciaaDoorSO
import Derived.Test.YtkjdnebmhljciaaDoorCards
import Derived.Test.YtkjdnebmhljciaaDoorTie
import Derived.WalkKit
import Derived.ProofKit
import Derived.OpenShut
import Derived.ShutString
import Derived.SevenTiedAt
namespace Go.Proofs.YtkjdnebmhljciaaDoor.slabReuse
open Go.ChangeShapes Go.WideShapes Go.ChangeAt Go.RowKit
set_option linter.unusedVariables false
set_option linter.unusedSimpArgs false
theorem own : ownKnob Tryd.prog.godebug = none := by kernel_rfl
theorem zero4 (w : World) : (zeroValue 4).run Tryd.prog w = .ok (.bool false) w := by kernel_rfl
theorem cell_dr {w : World} {p : Addr} {v : Value} (h : w.cell? p = some v) : w.drew.cell? p = some v := h
/-- Which slots are free, as the law's own map has it. -/
def frB (nn : Nat) (T : Nat → Th) (k : Int) : Bool := decide (0 ≤ k ∧ k < nn) && (T k.toNat).isNone
def FrM (F : Int → Option Value) (nn : Nat) (T : Nat → Th) : Prop := ∀ k, (F k).getD (.bool false) = .bool (frB nn T k)
structure Ru (w : World) (B nn : Nat) (used : Int) (T : Nat → Th) (n : Nat) : Prop where
  sl : Sl w B B 65536 used T n
  us : Us T used
  tab : Tab w
theorem Ru.below {w w' : World} {B nn : Nat} {used : Int} {T : Nat → Th} {n : Nat} (h : Ru w B nn used T n) (hb : Below w.heap.size w w') (h0 : 0 < w.heap.size) : Ru w' B nn used T n := ⟨h.sl.kept hb, h.us, h.tab.gr h0 hb⟩
theorem Ru.taken {w w' : World} {B nn : Nat} {used : Int} {T : Nat → Th} {n n' k s hh : Nat} (h : Ru w B nn used T n) (h0 : 0 < B) (hk : T k = none) (hS : Sl w' B B 65536 (used + clsM s) (upd T k (some (hh, List.replicate s 0))) n') (hF : Fr B B w w') : Ru w' B nn (used + clsM s) (upd T k (some (hh, List.replicate s 0))) n' := by
  refine ⟨hS, ?_, h.tab.gr h0 hF.bel⟩
  have := h.us.upd k (some (hh, List.replicate s 0))
  rw [hk] at this
  simpa [clsO] using this
theorem Ru.given {w w' : World} {B nn : Nat} {used : Int} {T : Nat → Th} {n k hh : Nat} {bs : List Int} (h : Ru w B nn used T n) (h0 : 0 < B) (hk : T k = some (hh, bs)) (hS : Sl w' B B 65536 (used - clsM bs.length) (upd T k none) n) (hF : Fr B B w w') : Ru w' B nn (used - clsM bs.length) (upd T k none) n := by
  refine ⟨hS, ?_, h.tab.gr h0 hF.bel⟩
  have := h.us.upd k none
  rw [hk] at this
  simpa [clsO] using this
theorem Ru.turned {w w' : World} {B nn m : Nat} {used : Int} {T : Nat → Th} {n : Nat} (h : Ru w B nn used T n) (h0 : 0 < B) (hm : B ≤ m) (hB : B ≤ w.heap.size) (t : w.mapTurned w' m) : Ru w' B nn used T n :=
  ⟨h.sl.turned t, h.us, h.tab.gr h0 ((Below.refl B w).grown t.grown hB (fun k e => by cases e; exact hm))⟩
theorem frm_put {F : Int → Option Value} {nn : Nat} {T : Nat → Th} (h : FrM F nn T) {j : Nat} (hj : j < nn) : FrM (updF F j (some (.bool true))) nn (upd T j none) := by
  intro k
  by_cases e : k = j
  · subst e
    rw [updF_self]
    simp [frB, upd_self, hj]
  · rw [updF_ne _ _ e, h k]
    unfold frB
    by_cases e2 : 0 ≤ k ∧ k < nn
    · rw [upd_ne _ _ (by omega)]
    · simp [e2]
theorem len_taken {T : Nat → Th} {k : Nat} : ∀ m, k < m → (∀ j, j ≤ k → (T j).isSome = true) → (∀ j, k < j → T j = none) → (takenL T m).length = k + 1 := by
  intro m hm h1 h2
  have e : takenL T m = List.range (k + 1) := by
    obtain ⟨d, rfl⟩ : ∃ d, m = (k + 1) + d := ⟨m - (k + 1), by omega⟩
    rw [takenL, List.range_add, List.filter_append]
    have a1 : (List.range (k + 1)).filter (fun j => (T j).isSome) = List.range (k + 1) := List.filter_eq_self.2 fun j hj => h1 j (by have := List.mem_range.1 hj; omega)
    have a2 : (List.map (fun x => k + 1 + x) (List.range d)).filter (fun j => (T j).isSome) = [] := by
      rw [List.filter_eq_nil_iff]
      intro j hj
      obtain ⟨x, _, rfl⟩ := List.mem_map.1 hj
      rw [h2 _ (by omega)]
      simp
    rw [a1, a2, List.append_nil]
  rw [e, List.length_range]
set_option maxRecDepth 100000 in
set_option maxHeartbeats 16000000 in
theorem walk (a0 : Int) (p1 : Option Addr) (L1 : List Int) (c1 : Nat) (w : World) (hT : Tab w) (h0 : 0 < w.heap.size) (w0 : (Lit.int .u8 a0).wf = true) (hL1 : Row8 w p1 L1) :
    Calls Tryd.prog 7 #[.int .u8 a0, .slice p1 L1.length c1] w fun e w' => e = .returned (.bool true) ∧ Below w.heap.size w w' := by
  have hw0 := wf_u8 w0
  have kw := fun W hT h0 => works_any W hT h0
  obtain ⟨nn, hn⟩ : ∃ nn : Nat, a0 % 100 = (nn : Int) := ⟨(a0 % 100).toNat, by omega⟩
  have hnn : nn < 100 := by omega
  by_cases hl1 : 200 < L1.length
  · have d1 : decide ((200 : Int) < (L1.length : Int)) = true := by simp; omega
    have k9 := kw w hT h0
    go_enter Tryd.func7, Tryd.ntmps7
    go_wp2_with (go_at_call 9; refine k9.mono ?_; rintro e w3 ⟨rfl, hb⟩)
    all_goals go_returns
    exact ⟨rfl, hb⟩
  have d1 : decide ((200 : Int) < (L1.length : Int)) = false := by simp; omega
  have k1 := new_any 65536 (by omega) w
  have hmm := @run_makeMap Tryd.prog
  have hR1 : Hid (Row8 w p1 L1) := hL1
  clear hL1
  go_enter Tryd.func7, Tryd.ntmps7
  go_upto_region 7 with (go_at_call 10; refine k1.mono ?_; rintro e wa ⟨rfl, hSa, hba⟩)
  replace hn : Hid _ := hn
  have hsa : w.heap.size < wa.heap.size := (hSa.cells).2.2.2.2
  have hRu : Ru wa w.heap.size nn 0 (fun _ => none) 0 := ⟨hSa, Us.new, hT.gr h0 hba⟩
  have hbl := hba
  clear k1 hSa hba
  generalize hB0 : w.heap.size = B at hRu hsa hbl h0 ⊢
  replace hB0 : Hid _ := hB0
  go_wp2
  go_loopw [8] (fun n8 wr => ∃ (i : Nat) (used : Int) (T : Nat → Th) (n : Nat), n8 = .int .i64 i ∧ i ≤ nn ∧ Ru wr B nn used T n ∧ used ≤ 128 * i ∧ n ≤ i ∧ (∀ j, (T j).isSome = decide (j < i)) ∧ Below B w wr) (fun n8 _ => nn - (valOf n8).toNat)
  case atStart => exact ⟨0, 0, _, 0, rfl, by omega, hRu, by omega, by omega, by simp, hbl⟩
  case round =>
    obtain ⟨i, used, T, n, rfl, hi, hRu, hus, hni, hTi, hbl⟩ := hrel
    have hwr : B ≤ wr.heap.size := by have := hB0.out; have := hbl.size; omega
    replace hTi : Hid _ := hTi
    by_cases hin : i < nn
    · have d : decide ((i : Int) < nn) = true := by simp; omega
      have e9 : IntKind.i64.wrap ((i : Int) + 1) = (i : Int) + 1 := IntWalk.i64_in _ (by omega)
      obtain ⟨s, hs⟩ : ∃ s : Nat, 1 + (i : Int) % 100 = (s : Int) := ⟨i + 1, by omega⟩
      have hs1 : s = i + 1 := by omega
      obtain ⟨f1, f2, f3, -⟩ := cls_facts (s := s) (by omega) (by omega)
      have e7 : IntKind.i64.wrap (1 + (i : Int) % 100) = 1 + (i : Int) % 100 := IntWalk.i64_in _ (by omega)
      have kt := take_ok wr _ _ _ _ _ _ hRu.sl hRu.tab s (by omega) (by omega) hwr (by omega)
      rw [← hs] at kt
      replace hs1 : Hid _ := hs1
      replace hs : Hid _ := hs
      go_upto_region 11 with (go_at_call 19; refine kt.mono ?_; rintro e v1 ⟨k, rfl, hk1, hk2, hk3, ⟨hh, n', hn', hS1⟩, hF1⟩)
      rw [hs.out] at hS1
      have hki : k = i := by
        have a1 := hTi.out k
        rw [hk1] at a1
        have a2 : ¬ k < i := by simpa using a1.symm
        by_cases e : k = i
        · exact e
        · have a3 := hk2 i (by omega)
          rw [hTi.out i] at a3
          simp at a3
      have q : ((k : Int) == (i : Int)) = true := by simp; omega
      replace hki : Hid _ := hki
      have hRu1 := hRu.taken h0 hk1 hS1 hF1
      go_wp2
      refine ⟨⟨i + 1, _, _, n', by simp, by omega, hRu1, by push_cast; omega, by omega, fun j => ?_, hbl.trans hF1.bel⟩, by simp [valOf]; omega⟩
      by_cases e : j = k
      · subst e
        have := hki.out
        rw [upd_self]; simp; omega
      · have := hki.out
        rw [upd_ne _ _ e, hTi.out j, decide_eq_decide]; omega
    · have d : decide ((i : Int) < nn) = false := by simp; omega
      have hi2 : i = nn := by omega
      go_upto_region 14 with fail
      have hI := IM.new wr
      have hRu2 := hRu.below ((Below.refl _ wr).alloc (Nat.le_refl _) (.map #[] 0)) (by omega)
      have hb2 := hbl.alloc hwr (.map #[] 0)
      have hFM : FrM (fun _ => none) nn T := fun k => by
        show Value.bool false = .bool (frB nn T k)
        congr 1
        unfold frB
        by_cases e : 0 ≤ k ∧ k < nn
        · have := hTi.out k.toNat
          rw [decide_eq_true (by omega)] at this
          cases hT' : T k.toNat with
          | none => rw [hT'] at this; cases this
          | some x => simp
        · simp [e]
      have hT0 : ∀ j, nn ≤ j → T j = none := fun j hj => by
        have := hTi.out j
        rw [decide_eq_false (by omega)] at this
        cases hT' : T j with
        | none => rfl
        | some x => rw [hT'] at this; cases this
      have hus2 : used ≤ 12800 := by omega
      have hn2 : n ≤ nn := by omega
      have hBm : B < wr.heap.size := (hRu.sl.cells).2.2.2.2
      clear hTi hus hni hi2 hRu hbl
      generalize wr.alloc (.map #[] 0) = wb at hI hRu2 hb2 ⊢
      generalize wr.heap.size = mf at hI hBm ⊢
      replace hFM : Hid (FrM (fun _ => none) nn T) := hFM
      replace hT0 : Hid _ := hT0
      go_wp2
      go_loopw [12] (fun n12 wr => ∃ (i kk : Nat) (used : Int) (T : Nat → Th) (F : Int → Option Value), n12 = .int .i64 i ∧ i ≤ L1.length ∧ Ru wr B nn used T n ∧ used ≤ 12800 ∧ (∀ j, nn ≤ j → T j = none) ∧ IM wr mf kk F ∧ FrM F nn T ∧ Below B w wr) (fun n12 _ => L1.length - (valOf n12).toNat)
      case atStart => exact ⟨0, 0, used, T, _, rfl, by omega, hRu2, hus2, hT0.out, hI, hFM.out, hb2⟩
      case round =>
        obtain ⟨i, kk, used, T, F, rfl, hi, hRu, hus, hT0, hI, hFM, hbl⟩ := hrel
        have hwr : B ≤ wr.heap.size := by have := hB0.out; have := hbl.size; omega
        replace hFM : Hid (FrM F nn T) := hFM
        replace hT0 : Hid _ := hT0
        by_cases hgo : i < L1.length ∧ 0 < nn
        · obtain ⟨hin, hnp⟩ := hgo
          have d2 : decide ((i : Int) < L1.length) = true := by simp; omega
          have d3 : decide ((0 : Int) < nn) = true := by simp; omega
          have e9 : IntKind.i64.wrap ((i : Int) + 1) = (i : Int) + 1 := IntWalk.i64_in _ (by omega)
          obtain ⟨xb, xo, x, -, hxc, ⟨hx0, hx1⟩, hxb, hxi⟩ := idx8 hR1.out hin (by omega)
          have r0 := (hbl.cell (p := ⟨xb, xo, none⟩) (by have := hB0.out; simp; omega)).trans hxc
          have hxi' := hxi c1
          obtain ⟨j, hj, hxj⟩ : ∃ j : Nat, j < nn ∧ x % (nn : Int) = (j : Int) := ⟨(x % (nn : Int)).toNat, by have := Int.emod_lt_of_pos x (show (0 : Int) < nn by omega); have := Int.emod_nonneg x (show (nn : Int) ≠ 0 by omega); omega, (Int.toNat_of_nonneg (Int.emod_nonneg x (show (nn : Int) ≠ 0 by omega))).symm⟩
          have hne : ((nn : Int) == 0) = false := by simp; omega
          clear hxi hxc
          go_upto_region 18 with fail
          rw [hxj]
          replace hxj : Hid _ := hxj
          clear r0 hxi'
          have lk0 := IM.look1 Tryd.underlying59 Tryd.underlying3 (show IM wr.drew mf kk F from hI) (j : Int) (zero4 wr.drew)
          rw [hFM.out j] at lk0
          have c0 := (hRu.sl.cells).1
          cases hTj : T j with
          | some y =>
            obtain ⟨hh, bs⟩ := y
            rw [show frB nn T j = false by simp [frB, hTj]] at lk0
            have kg := give_ok wr.drew _ _ _ _ _ _ hRu.sl.drew (hRu.tab.gr h0 (Below.refl _ _).drew) j (by unfold I64; omega) hh bs hTj (by have := hRu.us.le j; rw [hTj] at this; exact this)
            have hcl := clsM_bd (bs.length : Int)
            go_region_held3 (fun w' => w'.cell? ⟨B, 0, none⟩ = some (.bool true)) ((repeat (with_reducible (first | assumption | apply cell_dr)))) (first
              | (go_at_call 20; refine kg.mono ?_; rintro e v1 ⟨rfl, hS1, hF1⟩; have c01 : v1.cell? ⟨B, 0, none⟩ = some (.bool true) := (hS1.cells).1; have hI1 := (show IM wr.drew mf kk F from hI).fr hF1 (by omega); have lk1 := IM.look1 Tryd.underlying59 Tryd.underlying3 hI1 (j : Int) (zero4 v1); rw [hFM.out j, show frB nn T j = false by simp [frB, hTj]] at lk1))
            all_goals go_upto_region 20 with fail
            all_goals
              obtain ⟨W2, p2, i2, t2⟩ := IM.put Tryd.underlying59 Tryd.underlying3 hI1 (k := (j : Int)) (by unfold I64; omega) (.bool true)
              have hv1 : B ≤ v1.heap.size := by have := hF1.bel.size; have : wr.drew.heap.size = wr.heap.size := rfl; omega
              have hRd : Ru wr.drew B nn used T n := ⟨hRu.sl.drew, hRu.us, hRu.tab.gr h0 (Below.refl _ _).drew⟩
              have hRu3 := (hRd.given h0 hTj hS1 hF1).turned h0 (by omega) hv1 t2
              have hb3 : Below B w W2 := (hbl.drew.trans hF1.bel).grown t2.grown hv1 (fun k e => by cases e; omega)
              clear lk0 lk1 c01
              go_wp2
              exact ⟨⟨i + 1, _, _, _, _, by simp, by omega, hRu3, by omega, fun j' hj' => by rw [upd_ne _ _ (by omega)]; exact hT0.out j' hj', i2, frm_put hFM.out hj, hb3⟩, by simp [valOf]; omega⟩
          | none =>
            rw [show frB nn T j = true by simp [frB, hTj, hj]] at lk0
            have kg := give_none wr.drew _ _ _ _ _ _ hRu.sl.drew j (by unfold I64; omega) (by rw [getT_nat]; exact hTj)
            go_region_held3 (fun w' => w'.cell? ⟨B, 0, none⟩ = some (.bool true)) ((repeat (with_reducible (first | assumption | apply cell_dr)))) (first
              | (go_at_call 20; refine kg.mono ?_; rintro e v1 ⟨rfl, hw⟩; rw [hw]; clear hw))
            all_goals go_upto_region 20 with fail
            all_goals
              obtain ⟨W2, p2, i2, t2⟩ := IM.put (w := wr.drew) Tryd.underlying59 Tryd.underlying3 hI (k := (j : Int)) (by unfold I64; omega) (.bool true)
              have hRd : Ru wr.drew B nn used T n := ⟨hRu.sl.drew, hRu.us, hRu.tab.gr h0 (Below.refl _ _).drew⟩
              have hRu3 := hRd.turned h0 (by omega) hwr t2
              have hb3 : Below B w W2 := hbl.drew.grown t2.grown hwr (fun k e => by cases e; omega)
              have hsame : upd T j none = T := by funext j'; by_cases e : j' = j <;> simp [upd, e, hTj]
              have hFM3 := frm_put hFM.out hj
              rw [hsame] at hFM3
              clear lk0
              go_wp2
              exact ⟨⟨i + 1, _, _, _, _, by simp, by omega, hRu3, hus, hT0.out, i2, hFM3, hb3⟩, by simp [valOf]; omega⟩
        · by_cases hin : i < L1.length
          · have d2 : decide ((i : Int) < L1.length) = true := by simp; omega
            have d3 : decide ((0 : Int) < nn) = false := by simp; omega
            have d4 : decide (0 < nn) = false := decide_eq_false (by omega)
            go_upto_region 21 with fail
            clear d d2 d3 d4 hgo hin
            go_wp2
            go_loopw [14, 15] (fun n14 n15 wr => ∃ (i : Nat) (l : Int) (used' : Int) (T' : Nat → Th) (n' : Nat), n15 = .int .i64 i ∧ n14 = .int .i64 l ∧ i ≤ nn + 3 ∧ -1 ≤ l ∧ l ≤ 100000000 ∧ Ru wr B nn used' T' n' ∧ used' ≤ 12800 + 8 * i ∧ n' ≤ nn + i ∧ (∀ j : Nat, (j : Int) ≤ l → (T' j).isSome = true) ∧ (∀ j : Nat, l < (j : Int) → T' j = T j) ∧ IM wr mf kk F ∧ Below B w wr) (fun _ n15 _ => nn + 3 - (valOf n15).toNat)
            case atStart => exact ⟨0, -1, used, T, n, rfl, rfl, by omega, by omega, by omega, hRu, by omega, by omega, fun j hj => by omega, fun _ _ => rfl, hI, hbl⟩
            case round =>
              obtain ⟨i', l, used', T', n', rfl, rfl, hi', hl0, hl1', hRu', hus', hn', hTl, hTr, hI', hbl'⟩ := hrel
              have hwr' : B ≤ wr.heap.size := by have := hB0.out; have := hbl'.size; omega
              replace hTl : Hid _ := hTl
              replace hTr : Hid _ := hTr
              have e6 : IntKind.i64.wrap ((nn : Int) + 3) = (nn : Int) + 3 := IntWalk.i64_in _ (by omega)
              by_cases hin' : i' < nn + 3
              · have d5 : decide ((i' : Int) < (nn : Int) + 3) = true := by simp; omega
                have e9 : IntKind.i64.wrap ((i' : Int) + 1) = (i' : Int) + 1 := IntWalk.i64_in _ (by omega)
                have kt := take_ok wr _ _ _ _ _ _ hRu'.sl hRu'.tab 8 (by omega) (by have : clsM ((8 : Nat) : Int) = 8 := by decide
                                                                                    omega) hwr' (by omega)
                go_upto_region 26 with (go_at_call 19; refine kt.mono ?_; rintro e v1 ⟨k, rfl, hk1, hk2, hk3, ⟨hh, n2', hn2', hS1⟩, hF1⟩)
                have hRu1 := hRu'.taken h0 hk1 hS1 hF1
                rw [show clsM ((8 : Nat) : Int) = 8 by decide] at hRu1
                have hkl : l < (k : Int) := by
                  by_cases e : (k : Int) ≤ l
                  · have := hTl.out k e; rw [hk1] at this; cases this
                  · omega
                have hT0k : T k = none := by rw [← hTr.out k hkl]; exact hk1
                have hI1 := hI'.fr hF1 (by omega)
                have hbv1 := hbl'.trans hF1.bel
                have hv1 : B ≤ v1.heap.size := by have := hF1.bel.size; omega
                have q1 : decide ((k : Int) ≤ l) = false := by simp; omega
                clear kt
                go_cut [125] (fun n125 wx => n125 = .bool false ∧ Below v1.heap.size v1 wx)
                case first =>
                  by_cases hkn : k < nn
                  · have q2 : decide ((k : Int) < nn) = true := by simp; omega
                    have q3 : decide ((nn : Int) ≤ k) = false := by simp; omega
                    have lk := IM.look1 Tryd.underlying59 Tryd.underlying3 hI1 (k : Int) (zero4 v1)
                    rw [hFM.out k, show frB nn T k = true by simp [frB, hT0k, hkn]] at lk
                    go_wp2
                    all_goals go_meet
                    all_goals exact ⟨rfl, Below.refl _ _⟩
                  · have q2 : decide ((k : Int) < nn) = false := by simp; omega
                    have q3 : decide ((nn : Int) ≤ k) = true := by simp; omega
                    have ks := slots_any v1 _ _ _ _ _ _ hS1
                    have hkn2 : k < 64 * n2' := by
                      by_cases e : k < 64 * n2'
                      · exact e
                      · have := hS1.out k (by omega); rw [upd_self] at this; cases this
                    have hlen : (takenL (upd T' k (some (hh, List.replicate 8 0))) (64 * n2')).length = k + 1 := by
                      refine len_taken _ hkn2 (fun j hj => ?_) (fun j hj => ?_)
                      · by_cases e : j = k
                        · subst e; rw [upd_self]; rfl
                        · rw [upd_ne _ _ e]; exact hk2 j (by omega)
                      · rw [upd_ne _ _ (by omega), hTr.out j (by omega)]; exact hT0.out j (by omega)
                    generalize takenL (upd T' k (some (hh, List.replicate 8 0))) (64 * n2') = K at ks hlen
                    have e5 : IntKind.i64.wrap ((K.length : Int) - 1) = (K.length : Int) - 1 := IntWalk.i64_in _ (by omega)
                    have q4 : ((k : Int) == (K.length : Int) - 1) = true := by simp; omega
                    replace hlen : Hid _ := hlen
                    go_wp2_with (go_at_call 15; refine ks.mono ?_; go_loud (rintro e v2 ⟨⟨v, rfl, hrow⟩, hb2⟩; obtain ⟨kp, kc, rfl⟩ : ∃ p cap, v = .slice p K.length cap := row_shape hrow))
                    all_goals go_meet
                    all_goals exact ⟨by simp only [bne, q4]; rfl, hb2⟩
                case rest =>
                  obtain ⟨rfl, hbc⟩ := hcut
                  have hRc := hRu1.below hbc (by omega)
                  have hIc := hI1.keep (hbc.block _ hI1.lt)
                  have hbw := hbv1.trans (hbc.mono hv1)
                  have e3 : IntKind.i64.wrap (l + 1) = l + 1 := IntWalk.i64_in _ (by omega)
                  go_wp2
                  go_loopw [18] (fun n18 wk => ∃ q : Int, n18 = .int .i64 q ∧ l + 1 ≤ q ∧ q ≤ 100000001 ∧ wk = wc) (fun n18 _ => ((k : Int) - valOf n18).toNat)
                  case atStart => exact ⟨l + 1, rfl, by omega, by omega, rfl⟩
                  case round =>
                    obtain ⟨q, rfl, hq1, hq2, hw⟩ := hrel
                    rw [hw]; clear hw
                    by_cases hqk : q < (k : Int)
                    · have g1 : decide (q < (k : Int)) = true := by simp; omega
                      have e2 : IntKind.i64.wrap (q + 1) = q + 1 := IntWalk.i64_in _ (by omega)
                      by_cases hqn : q < (nn : Int)
                      · have g2 : decide (q < (nn : Int)) = true := by simp; omega
                        have lk := IM.look1 Tryd.underlying59 Tryd.underlying3 hIc q (zero4 wc)
                        have hfq : frB nn T q = false := by
                          have a1 := hTr.out q.toNat (by omega)
                          have a2 := hk2 q.toNat (by omega)
                          rw [a1] at a2
                          unfold frB
                          cases hq' : T q.toNat with
                          | none => rw [hq'] at a2; cases a2
                          | some y => simp
                        rw [hFM.out q, hfq] at lk
                        go_wp2
                        exact ⟨⟨q + 1, rfl, by omega, by omega, by trivial⟩, by simp [valOf]; omega⟩
                      · have g2 : decide (q < (nn : Int)) = false := by simp; omega
                        go_wp2
                        exact ⟨⟨i' + 1, k, _, _, n2', by simp, rfl, by omega, by omega, by omega, hRc, by push_cast; omega, by omega, fun j hj => by
                          by_cases e : j = k
                          · subst e; rw [upd_self]; rfl
                          · rw [upd_ne _ _ e]; exact hk2 j (by omega), fun j hj => by rw [upd_ne _ _ (by omega)]; exact hTr.out j (by omega), hIc, hbw⟩, by simp [valOf]; omega⟩
                    · have g1 : decide (q < (k : Int)) = false := by simp; omega
                      go_wp2
                      exact ⟨⟨i' + 1, k, _, _, n2', by simp, rfl, by omega, by omega, by omega, hRc, by push_cast; omega, by omega, fun j hj => by
                          by_cases e : j = k
                          · subst e; rw [upd_self]; rfl
                          · rw [upd_ne _ _ e]; exact hk2 j (by omega), fun j hj => by rw [upd_ne _ _ (by omega)]; exact hTr.out j (by omega), hIc, hbw⟩, by simp [valOf]; omega⟩
              · have d5 : decide ((i' : Int) < (nn : Int) + 3) = false := by simp; omega
                have k9 := kw wr hRu'.tab (by omega)
                go_wp2_with (go_at_call 9; refine k9.mono ?_; rintro e v6 ⟨rfl, hb6⟩)
                all_goals go_returns
                have hB1 := hB0.out
                rw [hB1]
                exact ⟨rfl, hbl'.trans (hb6.mono (by omega))⟩
          · have d2 : decide ((i : Int) < L1.length) = false := by simp; omega
            go_upto_region 21 with fail
            clear d d2 hgo hin
            go_wp2
            go_loopw [14, 15] (fun n14 n15 wr => ∃ (i : Nat) (l : Int) (used' : Int) (T' : Nat → Th) (n' : Nat), n15 = .int .i64 i ∧ n14 = .int .i64 l ∧ i ≤ nn + 3 ∧ -1 ≤ l ∧ l ≤ 100000000 ∧ Ru wr B nn used' T' n' ∧ used' ≤ 12800 + 8 * i ∧ n' ≤ nn + i ∧ (∀ j : Nat, (j : Int) ≤ l → (T' j).isSome = true) ∧ (∀ j : Nat, l < (j : Int) → T' j = T j) ∧ IM wr mf kk F ∧ Below B w wr) (fun _ n15 _ => nn + 3 - (valOf n15).toNat)
            case atStart => exact ⟨0, -1, used, T, n, rfl, rfl, by omega, by omega, by omega, hRu, by omega, by omega, fun j hj => by omega, fun _ _ => rfl, hI, hbl⟩
            case round =>
              obtain ⟨i', l, used', T', n', rfl, rfl, hi', hl0, hl1', hRu', hus', hn', hTl, hTr, hI', hbl'⟩ := hrel
              have hwr' : B ≤ wr.heap.size := by have := hB0.out; have := hbl'.size; omega
              replace hTl : Hid _ := hTl
              replace hTr : Hid _ := hTr
              have e6 : IntKind.i64.wrap ((nn : Int) + 3) = (nn : Int) + 3 := IntWalk.i64_in _ (by omega)
              by_cases hin' : i' < nn + 3
              · have d5 : decide ((i' : Int) < (nn : Int) + 3) = true := by simp; omega
                have e9 : IntKind.i64.wrap ((i' : Int) + 1) = (i' : Int) + 1 := IntWalk.i64_in _ (by omega)
                have kt := take_ok wr _ _ _ _ _ _ hRu'.sl hRu'.tab 8 (by omega) (by have : clsM ((8 : Nat) : Int) = 8 := by decide
                                                                                    omega) hwr' (by omega)
                go_upto_region 26 with (go_at_call 19; refine kt.mono ?_; rintro e v1 ⟨k, rfl, hk1, hk2, hk3, ⟨hh, n2', hn2', hS1⟩, hF1⟩)
                have hRu1 := hRu'.taken h0 hk1 hS1 hF1
                rw [show clsM ((8 : Nat) : Int) = 8 by decide] at hRu1
                have hkl : l < (k : Int) := by
                  by_cases e : (k : Int) ≤ l
                  · have := hTl.out k e; rw [hk1] at this; cases this
                  · omega
                have hT0k : T k = none := by rw [← hTr.out k hkl]; exact hk1
                have hI1 := hI'.fr hF1 (by omega)
                have hbv1 := hbl'.trans hF1.bel
                have hv1 : B ≤ v1.heap.size := by have := hF1.bel.size; omega
                have q1 : decide ((k : Int) ≤ l) = false := by simp; omega
                clear kt
                go_cut [125] (fun n125 wx => n125 = .bool false ∧ Below v1.heap.size v1 wx)
                case first =>
                  by_cases hkn : k < nn
                  · have q2 : decide ((k : Int) < nn) = true := by simp; omega
                    have q3 : decide ((nn : Int) ≤ k) = false := by simp; omega
                    have lk := IM.look1 Tryd.underlying59 Tryd.underlying3 hI1 (k : Int) (zero4 v1)
                    rw [hFM.out k, show frB nn T k = true by simp [frB, hT0k, hkn]] at lk
                    go_wp2
                    all_goals go_meet
                    all_goals exact ⟨rfl, Below.refl _ _⟩
                  · have q2 : decide ((k : Int) < nn) = false := by simp; omega
                    have q3 : decide ((nn : Int) ≤ k) = true := by simp; omega
                    have ks := slots_any v1 _ _ _ _ _ _ hS1
                    have hkn2 : k < 64 * n2' := by
                      by_cases e : k < 64 * n2'
                      · exact e
                      · have := hS1.out k (by omega); rw [upd_self] at this; cases this
                    have hlen : (takenL (upd T' k (some (hh, List.replicate 8 0))) (64 * n2')).length = k + 1 := by
                      refine len_taken _ hkn2 (fun j hj => ?_) (fun j hj => ?_)
                      · by_cases e : j = k
                        · subst e; rw [upd_self]; rfl
                        · rw [upd_ne _ _ e]; exact hk2 j (by omega)
                      · rw [upd_ne _ _ (by omega), hTr.out j (by omega)]; exact hT0.out j (by omega)
                    generalize takenL (upd T' k (some (hh, List.replicate 8 0))) (64 * n2') = K at ks hlen
                    have e5 : IntKind.i64.wrap ((K.length : Int) - 1) = (K.length : Int) - 1 := IntWalk.i64_in _ (by omega)
                    have q4 : ((k : Int) == (K.length : Int) - 1) = true := by simp; omega
                    replace hlen : Hid _ := hlen
                    go_wp2_with (go_at_call 15; refine ks.mono ?_; go_loud (rintro e v2 ⟨⟨v, rfl, hrow⟩, hb2⟩; obtain ⟨kp, kc, rfl⟩ : ∃ p cap, v = .slice p K.length cap := row_shape hrow))
                    all_goals go_meet
                    all_goals exact ⟨by simp only [bne, q4]; rfl, hb2⟩
                case rest =>
                  obtain ⟨rfl, hbc⟩ := hcut
                  have hRc := hRu1.below hbc (by omega)
                  have hIc := hI1.keep (hbc.block _ hI1.lt)
                  have hbw := hbv1.trans (hbc.mono hv1)
                  have e3 : IntKind.i64.wrap (l + 1) = l + 1 := IntWalk.i64_in _ (by omega)
                  go_wp2
                  go_loopw [18] (fun n18 wk => ∃ q : Int, n18 = .int .i64 q ∧ l + 1 ≤ q ∧ q ≤ 100000001 ∧ wk = wc) (fun n18 _ => ((k : Int) - valOf n18).toNat)
                  case atStart => exact ⟨l + 1, rfl, by omega, by omega, rfl⟩
                  case round =>
                    obtain ⟨q, rfl, hq1, hq2, hw⟩ := hrel
                    rw [hw]; clear hw
                    by_cases hqk : q < (k : Int)
                    · have g1 : decide (q < (k : Int)) = true := by simp; omega
                      have e2 : IntKind.i64.wrap (q + 1) = q + 1 := IntWalk.i64_in _ (by omega)
                      by_cases hqn : q < (nn : Int)
                      · have g2 : decide (q < (nn : Int)) = true := by simp; omega
                        have lk := IM.look1 Tryd.underlying59 Tryd.underlying3 hIc q (zero4 wc)
                        have hfq : frB nn T q = false := by
                          have a1 := hTr.out q.toNat (by omega)
                          have a2 := hk2 q.toNat (by omega)
                          rw [a1] at a2
                          unfold frB
                          cases hq' : T q.toNat with
                          | none => rw [hq'] at a2; cases a2
                          | some y => simp
                        rw [hFM.out q, hfq] at lk
                        go_wp2
                        exact ⟨⟨q + 1, rfl, by omega, by omega, by trivial⟩, by simp [valOf]; omega⟩
                      · have g2 : decide (q < (nn : Int)) = false := by simp; omega
                        go_wp2
                        exact ⟨⟨i' + 1, k, _, _, n2', by simp, rfl, by omega, by omega, by omega, hRc, by push_cast; omega, by omega, fun j hj => by
                          by_cases e : j = k
                          · subst e; rw [upd_self]; rfl
                          · rw [upd_ne _ _ e]; exact hk2 j (by omega), fun j hj => by rw [upd_ne _ _ (by omega)]; exact hTr.out j (by omega), hIc, hbw⟩, by simp [valOf]; omega⟩
                    · have g1 : decide (q < (k : Int)) = false := by simp; omega
                      go_wp2
                      exact ⟨⟨i' + 1, k, _, _, n2', by simp, rfl, by omega, by omega, by omega, hRc, by push_cast; omega, by omega, fun j hj => by
                          by_cases e : j = k
                          · subst e; rw [upd_self]; rfl
                          · rw [upd_ne _ _ e]; exact hk2 j (by omega), fun j hj => by rw [upd_ne _ _ (by omega)]; exact hTr.out j (by omega), hIc, hbw⟩, by simp [valOf]; omega⟩
              · have d5 : decide ((i' : Int) < (nn : Int) + 3) = false := by simp; omega
                have k9 := kw wr hRu'.tab (by omega)
                go_wp2_with (go_at_call 9; refine k9.mono ?_; rintro e v6 ⟨rfl, hb6⟩)
                all_goals go_returns
                have hB1 := hB0.out
                rw [hB1]
                exact ⟨rfl, hbl'.trans (hb6.mono (by omega))⟩

theorem readable : ∀ t ∈ Tryd.f7.params.toList, Tryd.prog.readableRec t = true ∧ t < Tryd.prog.types.size := by
  rw [Tryd.params7]
  intro t ht
  simp at ht
  rcases ht with rfl | rfl
  all_goals exact ⟨by kernel_rfl, of_decide_eq_true (by kernel_rfl)⟩
set_option maxRecDepth 100000 in
theorem lifted (os : Os) (started : os.Started) (H : Type) (enc : TypeId × Value → H) :
    ReturnsInHanded {} Tryd.checked os 7 .any (fun w args => (Rows.slabReuseSpec.pre enc Tryd.prog Tryd.f7 [] false w args ∧ laidMetH Tryd.prog laidL w) ∧ sizedMet enc Tryd.prog Tryd.f7 (OpenSpec.ofChange Rows.slabReuseSpec) false w args) (Rows.slabReuseSpec.post enc Tryd.prog Tryd.f7 false true false false) := by
  refine returnsInHanded_of_change_and (C := Tryd.checked) (X := fun w _ => laidMetH Tryd.prog laidL w) (fun _ _ _ hh h => h.of_heap hh) own started (by kernel_rfl) Tryd.func7
    (ChangeSpec.witness_shaped (enc := enc) (C := Tryd.checked) (os := os) (X := fun w _ => laidMetH Tryd.prog laidL w) false (World.doorLaid Tryd.prog 400 os) #[.int .u8 0, .slice none 0 0] 8 rfl (World.shaped_of_RefB (by kernel_rfl) (by kernel_rfl)) (by kernel_rfl) (by kernel_rfl) (by kernel_rfl) (door_met os _)) ?_
  intro W base args ds gs before hval0 hW _ _ hL _
  have hval : ∀ (j : Nat) t v, Tryd.f7.params[j]? = some t → args[j]? = some v → Value.okWide Tryd.prog W .any base t v := hval0
  have hW' := hW
  obtain ⟨p, q, hA0, hV, rfl, hfz, hnd⟩ := hW
  have hA : DataW.TrodAll enc Tryd.prog W 0 (fun _ => true) true Tryd.f7.params.toList args.toList ds p := hA0
  rw [Tryd.params7] at hA hval
  obtain ⟨v0, vs0, d0, ds0, p0, q0, hargs, rfl, rfl, h0, r0⟩ := trodAll_cons hA
  obtain ⟨v1, vs1, d1, ds1, p1, q1, rfl, rfl, rfl, h1, r1⟩ := trodAll_cons r0
  obtain ⟨rfl, rfl, rfl⟩ := trodAll_nil r1
  obtain rfl : args = #[v0, v1] := by cases args; simp_all
  obtain ⟨rfl, rfl⟩ := trodVars_none hV
  obtain ⟨a0, rfl, rfl, rfl, w0⟩ := open_int Tryd.underlying5 (hval 0 5 v0 rfl rfl) h0
  obtain ⟨p1, L1, c1, rfl, hL1⟩ := open_row8 (hval 1 46 v1 rfl rfl) h1
  clear hA0 hval0
  obtain ⟨hTab, hpos⟩ := tab_of hL
  refine (walk a0 p1 L1 c1 W hTab hpos w0 hL1).mono fun e W' ⟨he, hg⟩ => ?_
  subst he
  exact ⟨_, rfl, post_bel readable hW' rfl (fun _ _ _ => (trodAll_cons_mk (shut_bool Tryd.underlying4 _) trodAll_mk0)) rfl (fun _ => rfl)
    hg (ok_one (by kernel_rfl) rfl (okWide_bool_mk Tryd.underlying4 _))⟩

theorem over : Rows.SlabReuseSaid :=
  OpenClaim.holds_of_wide 7 Tryd.f7 rfl rfl rfl rfl rfl rfl rfl ⟨rfl, rfl, rfl, rfl, rfl⟩ rfl rfl rfl rfl rfl (by kernel_rfl) Tryd.func7 (by kernel_rfl)
    (of_decide_eq_true (by kernel_rfl)) (by unfold Func.isWrapper; first | (rw [if_pos (by decide +kernel)]; kernel_rfl) | (rw [if_neg (by decide +kernel)]; exact ⟨rfl, rfl⟩))
    (fun os started H enc _ => lifted os started H enc)
end Go.Proofs.YtkjdnebmhljciaaDoor.slabReuse
namespace Go.Proofs.YtkjdnebmhljciaaDoor
theorem slabReuse_holds : Rows.SlabReuseCardSaid :=
  Claim7.holds_tied_plain_at .later [] [.data] true (true, "d08cc78eabc309313952ab51cf6bb01585a3f0dccbd52a6795d3e19212e06ae1") false
    slabReuse.over (fun _ h => by cases h) (by kernel_rfl) (fun _ h => by cases h) slabReuse_row_tie rfl ⟨rfl, rfl⟩ (by kernel_rfl) rfl
    (fun f fn hf hfn => by
      obtain rfl : f = 7 := Option.some.inj ((show Tryd.prog.funcNamed "warden/wardenlaw12.SlabReuse" = some 7 by kernel_rfl).symm.trans hf) |>.symm
      obtain rfl : fn = Tryd.f7 := (Option.some.inj (Tryd.func7.symm.trans hfn)).symm
      exact ⟨by kernel_rfl, fun j t ht => by
        rw [Tryd.params7] at ht
        have hm : t ∈ [5, 46] := by simpa using Array.mem_of_getElem? ht
        have hall : ([5, 46].all fun u => !Tryd.prog.wantsStandIn u) = true := by kernel_rfl
        exact (show Tryd.prog.wantsStandIn t = false by simpa using List.all_eq_true.1 hall t hm)⟩)
    (by kernel_rfl)
#print axioms slabReuse_holds
end Go.Proofs.YtkjdnebmhljciaaDoor
