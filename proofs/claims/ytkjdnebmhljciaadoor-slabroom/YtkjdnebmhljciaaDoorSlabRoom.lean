/- SlabRoom: what is used is never more than the room, and all room is free again once all is given (P12.3), for every room, every sizes, every gives: the statement as given, its table of classes tied to the text of the program. No condition beside those of the card itself. -/
import Derived.Test.YtkjdnebmhljciaaDoorSO
import Derived.Test.YtkjdnebmhljciaaDoorCards
import Derived.Test.YtkjdnebmhljciaaDoorTie
import Derived.WalkKit
import Derived.ProofKit
import Derived.OpenShut
import Derived.ShutString
import Derived.SevenTiedAt
namespace Go.Proofs.YtkjdnebmhljciaaDoor.slabRoom
open Go.ChangeShapes Go.WideShapes Go.ChangeAt Go.RowKit
set_option linter.unusedVariables false
set_option linter.unusedSimpArgs false
theorem own : ownKnob Tryd.prog.godebug = none := by kernel_rfl
/-- What the law's own map knows: how much each slot that is taken uses. -/
def tkI (T : Nat → Th) (k : Int) : Int := clsO (getT T k)
structure Rm (w : World) (B b mt : Nat) (room used : Int) (T : Nat → Th) (n i : Nat) : Prop where
  sl : Sl w B b room used T n
  us : Us T used
  le : n ≤ i
  im : ∃ k F, IM w mt k F ∧ ∀ s, (F s).getD (.int .i64 0) = .int .i64 (tkI T s)
  tab : Tab w
theorem Rm.below {w w' : World} {B b mt : Nat} {room used : Int} {T : Nat → Th} {n i : Nat} (h : Rm w B b mt room used T n i) (hb : Below w.heap.size w w') (h0 : 0 < w.heap.size) : Rm w' B b mt room used T n i := by
  obtain ⟨k, F, h1, h2⟩ := h.im
  exact ⟨h.sl.kept hb, h.us, h.le, ⟨k, F, h1.keep (hb.block _ h1.lt), h2⟩, h.tab.gr h0 hb⟩
theorem tk_upd {T : Nat → Th} {F : Int → Option Value} (h : ∀ s, (F s).getD (.int .i64 0) = .int .i64 (tkI T s)) (k : Nat) (x : Th) : ∀ s, (updF F k (some (.int .i64 (clsO x))) s).getD (.int .i64 0) = .int .i64 (tkI (upd T k x) s) := by
  intro s
  by_cases e : s = k
  · subst e
    rw [updF_self]
    have e0 : ¬ (k : Int) < 0 := by omega
    simp only [tkI, getT, if_neg e0, Int.toNat_natCast, upd_self, Option.getD_some]
  · rw [updF_ne _ _ e, h s]
    unfold tkI getT
    by_cases e2 : s < 0
    · rw [if_pos e2, if_pos e2]
    · rw [if_neg e2, if_neg e2, upd_ne _ _ (by omega)]
set_option maxRecDepth 100000 in
set_option maxHeartbeats 16000000 in
theorem walk (a0 : Int) (p1 : Option Addr) (L1 : List Int) (c1 : Nat) (p2 : Option Addr) (L2 : List Bool) (c2 : Nat) (w : World) (hT : Tab w) (h0 : 0 < w.heap.size) (w0 : (Lit.int .u16 a0).wf = true) (hL1 : Row8 w p1 L1) (hL2 : RowB w p2 L2) :
    Calls Tryd.prog 4 #[.int .u16 a0, .slice p1 L1.length c1, .slice p2 L2.length c2] w fun e w' => e = .returned (.bool true) ∧ Below w.heap.size w w' := by
  have hw0 := wf_u16 w0
  have kw := fun W hT h0 => works_any W hT h0
  by_cases hl1 : 300 < L1.length
  · have d1 : decide ((300 : Int) < (L1.length : Int)) = true := by simp; omega
    have k9 := kw w hT h0
    go_enter Tryd.func4, Tryd.ntmps4
    go_wp2_with (go_at_call 9; refine k9.mono ?_; rintro e w3 ⟨rfl, hb⟩)
    all_goals go_returns
    exact ⟨rfl, hb⟩
  have d1 : decide ((300 : Int) < (L1.length : Int)) = false := by simp; omega
  by_cases hl2 : 300 < L2.length
  · have d2 : decide ((300 : Int) < (L2.length : Int)) = true := by simp; omega
    have k9 := kw w hT h0
    go_enter Tryd.func4, Tryd.ntmps4
    go_wp2_with (go_at_call 9; refine k9.mono ?_; rintro e w3 ⟨rfl, hb⟩)
    all_goals go_returns
    exact ⟨rfl, hb⟩
  have d2 : decide ((300 : Int) < (L2.length : Int)) = false := by simp; omega
  have k1 := new_any a0 (by omega) w
  have hmm := @run_makeMap Tryd.prog
  have hR1 : Hid (Row8 w p1 L1) := hL1
  have hR2 : Hid (RowB w p2 L2) := hL2
  clear hL1 hL2
  go_enter Tryd.func4, Tryd.ntmps4
  go_upto_region 7 with (go_at_call 10; refine k1.mono ?_; rintro e wa ⟨rfl, hSa, hba⟩)
  have hbl : Below w.heap.size w (wa.alloc (.map #[] 0)) := hba.alloc hba.size _
  have hsa : w.heap.size < wa.heap.size := (hSa.cells).2.2.2.2
  have hRm : Rm (wa.alloc (.map #[] 0)) w.heap.size w.heap.size wa.heap.size a0 0 (fun _ => none) 0 0 := ⟨hSa.kept ((Below.refl _ wa).alloc (Nat.le_refl _) _), Us.new, Nat.le_refl _, ⟨0, _, IM.new wa, fun s => by simp [tkI, getT, clsO]⟩, hT.gr h0 hbl⟩
  clear k1 hmm hSa hba
  generalize wa.alloc (.map #[] 0) = wb at hRm hbl ⊢
  generalize wa.heap.size = mt at hRm hsa ⊢
  generalize hB0 : w.heap.size = B at hRm hsa hbl h0 ⊢
  replace hB0 : Hid _ := hB0
  go_wp2
  go_loopw [10] (fun n10 wr => ∃ (i : Nat) (used : Int) (T : Nat → Th) (n : Nat), n10 = .int .i64 i ∧ i ≤ L1.length ∧ Rm wr B B mt a0 used T n i ∧ Below B w wr) (fun n10 _ => L1.length - (valOf n10).toNat)
  case atStart => exact ⟨0, 0, _, 0, rfl, by omega, hRm, hbl⟩
  case round =>
    obtain ⟨i, used, T, n, rfl, hi, hRm, hbl⟩ := hrel
    have hwr : B ≤ wr.heap.size := by have := hB0.out; have := hbl.size; omega
    have hu := hRm.sl.us
    have hnle := hRm.le
    by_cases hin : i < L1.length
    · have d : decide ((i : Int) < L1.length) = true := by simp; omega
      have e9 : IntKind.i64.wrap ((i : Int) + 1) = (i : Int) + 1 := IntWalk.i64_in _ (by omega)
      obtain ⟨xb, xo, x, -, hxc, ⟨hx0, hx1⟩, hxb, hxi⟩ := idx8 hR1.out hin (by omega)
      have r0 := (hbl.cell (p := ⟨xb, xo, none⟩) (by have := hB0.out; simp; omega)).trans hxc
      have hxi' := hxi c1
      obtain ⟨s, hs⟩ : ∃ s : Nat, x % 128 + 1 = (s : Int) := ⟨(x % 128 + 1).toNat, by omega⟩
      have hs1 : 1 ≤ s := by omega
      have hs2 : s ≤ 128 := by omega
      obtain ⟨f1, f2, f3, f4⟩ := cls_facts hs1 hs2
      have kc := class_any (x % 128 + 1) wr hRm.tab
      rw [hs] at kc
      have ku := used_any wr _ _ _ _ _ _ hRm.sl
      rw [decide_eq_true f2] at kc
      replace f4 : Hid _ := f4
      clear hxi hxc
      by_cases hfit : used + clsM s ≤ a0
      · have kt := take_ok wr _ _ _ _ _ _ hRm.sl hRm.tab s ⟨hs1, hs2⟩ hfit hwr (by omega)
        generalize hcl : clsM (s : Int) = c at *
        have hwu : IntKind.i64.wrap (used + c) = used + c := IntWalk.i64_in _ (by omega)
        have hw2 : IntKind.i64.wrap (2 * (s : Int)) = 2 * (s : Int) := IntWalk.i64_in _ (by omega)
        have q1 : decide (c < (s : Int)) = false := by simp; omega
        have q2 : decide (used + c ≤ a0) = true := by simp; omega
        go_upto_region 14 with (first | (go_at_call 18; refine kc.mono ?_; rintro e w' ⟨rfl, hw⟩; rw [hw]; clear hw) | (go_at_call 12; refine ku.mono ?_; rintro e w' ⟨rfl, hw⟩; rw [hw]; clear hw) | (go_at_call 19; refine kt.mono ?_; rintro e v1 ⟨k, rfl, hk1, hk2, hk3, ⟨hh, n', hn', hS1⟩, hF1⟩))
        go_cut [94] (fun n94 wx => n94 = .bool false ∧ wx = v1)
        case first =>
          by_cases h28 : 2 * (s : Int) ≤ c
          · have q3 : decide (2 * (s : Int) ≤ c) = true := by simp; omega
            have q4 : decide ((8 : Int) < c) = false := by have := f4.out h28; simp; omega
            go_wp2
            all_goals go_meet
            case rel => exact ⟨rfl, rfl⟩
          · have q3 : decide (2 * (s : Int) ≤ c) = false := by simp; omega
            go_wp2
            all_goals go_meet
            case rel => exact ⟨rfl, rfl⟩
        case rest =>
          obtain ⟨rfl, hw⟩ := hcut
          subst hw
          have hTab1 := hRm.tab.gr h0 hF1.bel
          obtain ⟨kk, F, hI, hIF⟩ := hRm.im
          have hI1 := hI.fr hF1 (by omega)
          have lk := IM.look1 Tryd.underlying48 Tryd.underlying3 hI1 (k : Int) (zero3 wc)
          rw [hIF, show tkI T k = 0 by rw [tkI, getT_nat, hk1]; rfl] at lk
          have ku2 := used_any wc _ _ _ _ _ _ hS1
          obtain ⟨W2, p2, i2, t2⟩ := IM.put Tryd.underlying48 Tryd.underlying3 hI1 (k := (k : Int)) (by unfold I64; omega) (.int .i64 c)
          have hS2 := hS1.turned t2
          have hb2 : Below B wc W2 := (Below.refl _ _).grown t2.grown (by have := hF1.bel.size; omega) (fun k e => by cases e; omega)
          have hTab2 := hTab1.gr h0 hb2
          have hbw2 : Below B w W2 := (hbl.trans hF1.bel).trans hb2
          have hx2 : clsO (some (hh, List.replicate s 0)) = c := by simp [clsO, hcl]
          have hus2 := hRm.us.upd k (some (hh, List.replicate s 0))
          rw [hx2, hk1, show clsO none = 0 from rfl, show used + c - 0 = used + c by omega] at hus2
          have him2 : ∀ s', (updF F k (some (.int .i64 c)) s').getD (.int .i64 0) = .int .i64 (tkI (upd T k (some (hh, List.replicate s 0))) s') := by
            have := tk_upd hIF k (some (hh, List.replicate s 0))
            rw [hx2] at this
            exact this
          have q5 : ((used + c) == (used + c)) = true := by simp
          have hxi2 := hR2
          replace hus2 : Hid _ := hus2
          replace him2 : Hid _ := him2
          go_upto_region 20 with (go_at_call 12; refine ku2.mono ?_; rintro e w' ⟨rfl, hw⟩; rw [hw]; clear hw)
          clear p2 lk ku2 kc ku kt
          by_cases hg : i < L2.length
          · have dg : decide ((i : Int) < L2.length) = true := by simp; omega
            obtain ⟨yb, yo, y, hyc, hyb, hyi⟩ := idxb hR2.out hg (by omega)
            have r2 := (hbw2.cell (p := ⟨yb, yo, none⟩) (by have := hB0.out; simp; omega)).trans hyc
            have hyi' := hyi c2
            cases y with
            | false =>
              go_wp2
              exact ⟨⟨i + 1, used + c, _, n', by simp, by omega, ⟨hS2, hus2.out, by omega, ⟨_, _, i2, him2.out⟩, hTab2⟩, hbw2⟩, by simp [valOf]; omega⟩
            | true =>
              have kg := give_ok W2 _ _ _ _ _ _ hS2 hTab2 k (by unfold I64; omega) hh (List.replicate s 0) (upd_self _ _ _) (by rw [List.length_replicate, hcl]; omega)
              rw [List.length_replicate, hcl, show used + c - c = used by omega] at kg
              go_wp2_with (first
                | (go_at_call 20; refine kg.mono ?_; go_loud (rintro e v3 ⟨rfl, hS3, hF3⟩; have ku3 := used_any v3 _ _ _ _ _ _ hS3; have q6 : (used == used) = true := (by simp); have hI3 := i2.fr hF3 (by omega); obtain ⟨W4, p4, i4, t4⟩ := IM.put Tryd.underlying48 Tryd.underlying3 hI3 (k := (k : Int)) (by unfold I64; omega) (.int .i64 0)))
                | (go_at_call 12; refine ku3.mono ?_; rintro e w' ⟨rfl, hw⟩; rw [hw]; clear hw))
              have hS4 := hS3.turned t4
              have hb4 : Below B v3 W4 := (Below.refl _ _).grown t4.grown (by have := hF3.bel.size; have := hbw2.size; have := hB0.out; omega) (fun k e => by cases e; omega)
              have hus4 := Us.upd (T := upd T k (some (hh, List.replicate s 0))) (used := used + c) hus2.out k none
              rw [upd_self, hx2, show clsO none = 0 from rfl, show used + c + 0 - c = used by omega] at hus4
              have him4 := tk_upd him2.out k none
              exact ⟨⟨i + 1, used, _, n', by simp, by omega, ⟨hS4, hus4, by omega, ⟨_, _, i4, him4⟩, (hTab2.gr h0 hF3.bel).gr h0 hb4⟩, (hbw2.trans hF3.bel).trans hb4⟩, by simp [valOf]; omega⟩
          · have dg : decide ((i : Int) < L2.length) = false := by simp; omega
            go_wp2
            exact ⟨⟨i + 1, used + c, _, n', by simp, by omega, ⟨hS2, hus2.out, by omega, ⟨_, _, i2, him2.out⟩, hTab2⟩, hbw2⟩, by simp [valOf]; omega⟩
      · have kt := take_full wr _ _ _ _ _ _ hRm.sl hRm.tab s f2 (by omega)
        generalize hcl : clsM (s : Int) = c at *
        have hwu : IntKind.i64.wrap (used + c) = used + c := IntWalk.i64_in _ (by omega)
        have hw2 : IntKind.i64.wrap (2 * (s : Int)) = 2 * (s : Int) := IntWalk.i64_in _ (by omega)
        have q1 : decide (c < (s : Int)) = false := by simp; omega
        have q2 : decide (used + c ≤ a0) = false := by simp; omega
        go_upto_region 14 with (first | (go_at_call 18; refine kc.mono ?_; rintro e w' ⟨rfl, hw⟩; rw [hw]; clear hw) | (go_at_call 12; refine ku.mono ?_; rintro e w' ⟨rfl, hw⟩; rw [hw]; clear hw) | (go_at_call 19; refine kt.mono ?_; rintro e v1 ⟨rfl, hS1, hF1⟩))
        go_cut [94] (fun n94 wx => n94 = .bool false ∧ wx = v1)
        case first =>
          by_cases h28 : 2 * (s : Int) ≤ c
          · have q3 : decide (2 * (s : Int) ≤ c) = true := by simp; omega
            have q4 : decide ((8 : Int) < c) = false := by have := f4.out h28; simp; omega
            go_wp2
            all_goals go_meet
            case rel => exact ⟨rfl, rfl⟩
          · have q3 : decide (2 * (s : Int) ≤ c) = false := by simp; omega
            go_wp2
            all_goals go_meet
            case rel => exact ⟨rfl, rfl⟩
        case rest =>
          obtain ⟨rfl, hw⟩ := hcut
          subst hw
          obtain ⟨kk, F, hI, hIF⟩ := hRm.im
          have hI1 := hI.fr hF1 (by omega)
          go_wp2
          exact ⟨⟨i + 1, used, T, n, by simp, by omega, ⟨hS1, hRm.us, by omega, ⟨_, _, hI1, hIF⟩, hRm.tab.gr h0 hF1.bel⟩, hbl.trans hF1.bel⟩, by simp [valOf]; omega⟩
    · have d : decide ((i : Int) < L1.length) = false := by simp; omega
      have ks := slots_any wr _ _ _ _ _ _ hRm.sl
      have hmemK : ∀ k, k ∈ takenL T (64 * n) ↔ (T k).isSome = true := fun k => by
        rw [taken_mem]
        refine ⟨fun h => h.2, fun h => ⟨?_, h⟩⟩
        by_cases e : k < 64 * n
        · exact e
        · rw [hRm.sl.out k (by omega)] at h; cases h
      have hnd := taken_nd T (64 * n)
      have hKl : (takenL T (64 * n)).length ≤ 64 * n := by
        have := List.length_filter_le (fun k => (T k).isSome) (List.range (64 * n))
        simpa [takenL] using this
      generalize takenL T (64 * n) = K at ks hmemK hnd hKl
      have hlt0 : 0 < wr.heap.size := by omega
      obtain ⟨kk, F, hI, hIF⟩ := hRm.im
      replace hmemK : Hid _ := hmemK
      replace hnd : Hid _ := hnd
      replace hIF : Hid _ := hIF
      go_upto_region 25 with (go_at_call 15; refine ks.mono ?_; go_loud (rintro e v1 ⟨⟨v, rfl, hrow⟩, hb1⟩; obtain ⟨kp, kc, rfl⟩ : ∃ p cap, v = .slice p K.length cap := row_shape hrow))
      have hR1' := hRm.below hb1 hlt0
      have hI1 := hI.keep (hb1.block _ hI.lt)
      have hbv1 := hbl.trans (hb1.mono hwr)
      have hbv1s : B ≤ v1.heap.size := by have := hb1.size; omega
      clear ks
      go_wp2
      go_loopw [18] (fun n18 wk => ∃ (j : Nat) (used' : Int) (T' : Nat → Th), n18 = .int .i64 j ∧ j ≤ K.length ∧ Sl wk B B a0 used' T' n ∧ Us T' used' ∧ (∀ k, T' k = if k ∈ K.take j then none else T k) ∧ IM wk mt kk F ∧ wk.ownsRow wr.heap.size 3 1 (.slice kp K.length kc) K.length (intsV K) ∧ Tab wk ∧ Below B w wk) (fun n18 _ => K.length - (valOf n18).toNat)
      case atStart => exact ⟨0, used, T, rfl, by omega, hR1'.sl, hRm.us, by simp, hI1, hrow, hR1'.tab, hbv1⟩
      case round =>
        obtain ⟨j, used', T', rfl, hj, hS, hU, hT', hI2, hrw, hTb, hbk⟩ := hrel
        replace hT' : Hid _ := hT'
        by_cases hjl : j < K.length
        · have dj : decide ((j : Int) < K.length) = true := by simp; omega
          have e8 : IntKind.i64.wrap ((j : Int) + 1) = (j : Int) + 1 := IntWalk.i64_in _ (by omega)
          obtain ⟨g, k, hkK, hc, hai⟩ := idx3 hrw hjl (by omega)
          have hkm := List.mem_of_getElem? hkK
          have hknot : k ∉ K.take j := fun hm => by
            obtain ⟨j', hj'⟩ := List.getElem?_of_mem hm
            rw [List.getElem?_take] at hj'
            split at hj'
            · rename_i hlt
              have := (List.getElem?_inj (by omega) hnd.out).1 (hj'.trans hkK.symm)
              omega
            · cases hj'
          obtain ⟨⟨hh, bs⟩, hTk⟩ := Option.isSome_iff_exists.1 ((hmemK.out k).1 hkm)
          have hTk' : T' k = some (hh, bs) := by rw [hT'.out, if_neg hknot]; exact hTk
          obtain ⟨-, -, hb1', hb2', -⟩ := hS.th k hh bs hTk'
          obtain ⟨g1, g2, g3, -⟩ := cls_facts hb1' hb2'
          have lk := IM.look1 Tryd.underlying48 Tryd.underlying3 hI2 (k : Int) (zero3 wr)
          rw [hIF.out, show tkI T k = clsM bs.length by rw [tkI, getT_nat, hTk]; rfl] at lk
          have q7 : (clsM bs.length == 0) = false := by simp; omega
          have hkb : k < 64 * n := by
            by_cases e : k < 64 * n
            · exact e
            · rw [hS.out k (by omega)] at hTk'; cases hTk'
          have kg := give_ok wr _ _ _ _ _ _ hS hTb k (by unfold I64; omega) hh bs hTk' (by have := hU.le k; rw [hTk'] at this; exact this)
          have hU2 := hU.upd k none
          rw [hTk', show used' + clsO none - clsO (some (hh, bs)) = used' - clsM bs.length by simp [clsO]] at hU2
          generalize clsM (bs.length : Int) = cb at *
          go_wp2_with (go_at_call 20; refine kg.mono ?_; rintro e v3 ⟨rfl, hS3, hF3⟩)
          refine ⟨⟨j + 1, _, _, by simp, by omega, hS3, ?_, ?_, hI2.fr hF3 (by omega), row3_fr hrw hF3 hS.not3, hTb.gr h0 hF3.bel, hbk.trans hF3.bel⟩, by simp [valOf]; omega⟩
          · exact hU2
          · intro k'
            rw [List.take_add_one, hkK]
            by_cases e : k' = k
            · subst e; rw [upd_self]; simp
            · rw [upd_ne _ _ e, hT'.out]; simp [e]
        · have dj : decide ((j : Int) < K.length) = false := by simp; omega
          obtain rfl : j = K.length := by omega
          have hall : ∀ k, T' k = none := fun k => by
            rw [hT'.out, List.take_length]
            by_cases e : k ∈ K
            · rw [if_pos e]
            · rw [if_neg e]
              cases hTk : T k with
              | none => rfl
              | some x => exact absurd ((hmemK.out k).2 (by rw [hTk]; rfl)) e
          obtain rfl : used' = 0 := hU.empty hall
          have ku4 := used_any wr _ _ _ _ _ _ hS
          have ks4 := slots_any wr _ _ _ _ _ _ hS
          have hK0 : takenL T' (64 * n) = [] := by
            rw [takenL, List.filter_eq_nil_iff]
            intro k _
            rw [hall k]; simp
          rw [hK0] at ks4
          go_wp2_with (first
            | (go_at_call 12; refine ku4.mono ?_; rintro e w' ⟨rfl, hw⟩; rw [hw]; clear hw)
            | (go_at_call 15; refine ks4.mono ?_; go_loud (rintro e v5 ⟨⟨v, rfl, hrow5⟩, hb5⟩; obtain ⟨kp5, kc5, rfl⟩ : ∃ p cap, v = .slice p ([] : List Nat).length cap := row_shape hrow5; have hTb5 := hTb.gr (B := wr.heap.size) (by have := hbk.size; have := hB0.out; omega) hb5; have k9 := kw v5 hTb5 (by have := hbk.size; have := hB0.out; have := hb5.size; omega)))
            | (go_at_call 9; refine k9.mono ?_; rintro e v6 ⟨rfl, hb6⟩))
          all_goals go_returns
          have hB1 := hB0.out
          have h1 := hbk.size
          have h2 := hb5.size
          rw [hB1]
          exact ⟨rfl, (hbk.trans (hb5.mono (by omega))).trans (hb6.mono (by omega))⟩

theorem readable : ∀ t ∈ Tryd.f4.params.toList, Tryd.prog.readableRec t = true ∧ t < Tryd.prog.types.size := by
  rw [Tryd.params4]
  intro t ht
  simp at ht
  rcases ht with rfl | rfl | rfl
  all_goals exact ⟨by kernel_rfl, of_decide_eq_true (by kernel_rfl)⟩
set_option maxRecDepth 100000 in
theorem lifted (os : Os) (started : os.Started) (H : Type) (enc : TypeId × Value → H) :
    ReturnsInHanded {} Tryd.checked os 4 .any (fun w args => (Rows.slabRoomSpec.pre enc Tryd.prog Tryd.f4 [] false w args ∧ laidMetH Tryd.prog laidL w) ∧ sizedMet enc Tryd.prog Tryd.f4 (OpenSpec.ofChange Rows.slabRoomSpec) false w args) (Rows.slabRoomSpec.post enc Tryd.prog Tryd.f4 false true false false) := by
  refine returnsInHanded_of_change_and (C := Tryd.checked) (X := fun w _ => laidMetH Tryd.prog laidL w) (fun _ _ _ hh h => h.of_heap hh) own started (by kernel_rfl) Tryd.func4
    (ChangeSpec.witness_shaped (enc := enc) (C := Tryd.checked) (os := os) (X := fun w _ => laidMetH Tryd.prog laidL w) false (World.doorLaid Tryd.prog 400 os) #[.int .u16 0, .slice none 0 0, .slice none 0 0] 8 rfl (World.shaped_of_RefB (by kernel_rfl) (by kernel_rfl)) (by kernel_rfl) (by kernel_rfl) (by kernel_rfl) (door_met os _)) ?_
  intro W base args ds gs before hval0 hW _ _ hL _
  have hval : ∀ (j : Nat) t v, Tryd.f4.params[j]? = some t → args[j]? = some v → Value.okWide Tryd.prog W .any base t v := hval0
  have hW' := hW
  obtain ⟨p, q, hA0, hV, rfl, hfz, hnd⟩ := hW
  have hA : DataW.TrodAll enc Tryd.prog W 0 (fun _ => true) true Tryd.f4.params.toList args.toList ds p := hA0
  rw [Tryd.params4] at hA hval
  obtain ⟨v0, vs0, d0, ds0, p0, q0, hargs, rfl, rfl, h0, r0⟩ := trodAll_cons hA
  obtain ⟨v1, vs1, d1, ds1, p1, q1, rfl, rfl, rfl, h1, r1⟩ := trodAll_cons r0
  obtain ⟨v2, vs2, d2, ds2, p2, q2, rfl, rfl, rfl, h2, r2⟩ := trodAll_cons r1
  obtain ⟨rfl, rfl, rfl⟩ := trodAll_nil r2
  obtain rfl : args = #[v0, v1, v2] := by cases args; simp_all
  obtain ⟨rfl, rfl⟩ := trodVars_none hV
  obtain ⟨a0, rfl, rfl, rfl, w0⟩ := open_int Tryd.underlying45 (hval 0 45 v0 rfl rfl) h0
  obtain ⟨p1, L1, c1, rfl, hL1⟩ := open_row8 (hval 1 46 v1 rfl rfl) h1
  obtain ⟨p2, L2, c2, rfl, hL2⟩ := open_rowb (hval 2 47 v2 rfl rfl) h2
  clear hA0 hval0
  obtain ⟨hTab, hpos⟩ := tab_of hL
  refine (walk a0 p1 L1 c1 p2 L2 c2 W hTab hpos w0 hL1 hL2).mono fun e W' ⟨he, hg⟩ => ?_
  subst he
  exact ⟨_, rfl, post_bel readable hW' rfl (fun _ _ _ => (trodAll_cons_mk (shut_bool Tryd.underlying4 _) trodAll_mk0)) rfl (fun _ => rfl)
    hg (ok_one (by kernel_rfl) rfl (okWide_bool_mk Tryd.underlying4 _))⟩

theorem over : Rows.SlabRoomSaid :=
  OpenClaim.holds_of_wide 4 Tryd.f4 rfl rfl rfl rfl rfl rfl rfl ⟨rfl, rfl, rfl, rfl, rfl⟩ rfl rfl rfl rfl rfl (by kernel_rfl) Tryd.func4 (by kernel_rfl)
    (of_decide_eq_true (by kernel_rfl)) (by unfold Func.isWrapper; first | (rw [if_pos (by decide +kernel)]; kernel_rfl) | (rw [if_neg (by decide +kernel)]; exact ⟨rfl, rfl⟩))
    (fun os started H enc _ => lifted os started H enc)
end Go.Proofs.YtkjdnebmhljciaaDoor.slabRoom
namespace Go.Proofs.YtkjdnebmhljciaaDoor
theorem slabRoom_holds : Rows.SlabRoomCardSaid :=
  Claim7.holds_tied_plain_at .later [] [.data] true (true, "d08cc78eabc309313952ab51cf6bb01585a3f0dccbd52a6795d3e19212e06ae1") false
    slabRoom.over (fun _ h => by cases h) (by kernel_rfl) (fun _ h => by cases h) slabRoom_row_tie rfl ⟨rfl, rfl⟩ (by kernel_rfl) rfl
    (fun f fn hf hfn => by
      obtain rfl : f = 4 := Option.some.inj ((show Tryd.prog.funcNamed "warden/wardenlaw12.SlabRoom" = some 4 by kernel_rfl).symm.trans hf) |>.symm
      obtain rfl : fn = Tryd.f4 := (Option.some.inj (Tryd.func4.symm.trans hfn)).symm
      exact ⟨by kernel_rfl, fun j t ht => by
        rw [Tryd.params4] at ht
        have hm : t ∈ [45, 46, 47] := by simpa using Array.mem_of_getElem? ht
        have hall : ([45, 46, 47].all fun u => !Tryd.prog.wantsStandIn u) = true := by kernel_rfl
        exact (show Tryd.prog.wantsStandIn t = false by simpa using List.all_eq_true.1 hall t hm)⟩)
    (by kernel_rfl)
#print axioms slabRoom_holds
end Go.Proofs.YtkjdnebmhljciaaDoor
