/- SlabApart: what is written into one slot is read there, and changes no other one, nor the bytes beside (P12.3), for every sizes, every slot, every place, every text: the statement as given, its table of classes tied to the text of the program. No condition beside those of the card itself. -/
import Derived.Test.YtkjdnebmhljciaaDoorSQ
import Derived.Test.YtkjdnebmhljciaaDoorCards
import Derived.Test.YtkjdnebmhljciaaDoorTie
import Derived.WalkKit
import Derived.ProofKit
import Derived.OpenShut
import Derived.ShutString
import Derived.SevenTiedAt
namespace Go.Proofs.YtkjdnebmhljciaaDoor.slabApart
open Go.ChangeShapes Go.WideShapes Go.ChangeAt Go.RowKit
set_option linter.unusedVariables false
set_option linter.unusedSimpArgs false
theorem own : ownKnob Tryd.prog.godebug = none := by kernel_rfl
/-- What lies in the slots. -/
structure Co (T : Nat → Th) (L : List Int) (C : Nat → List Int) (i : Nat) : Prop where
  ins : ∀ j, j < i → ∃ h, T j = some (h, C j)
  out : ∀ j, i ≤ j → T j = none
def fillC (L : List Int) (j : Nat) : List Int := List.replicate (szL L j) (j : Int)
theorem szL_of {L : List Int} {i : Nat} {x : Int} (h : L[i]? = some x) (h0 : 0 ≤ x) (h1 : x ≤ 255) : ((szL L i : Nat) : Int) = x % 128 + 1 ∧ 1 ≤ szL L i ∧ szL L i ≤ 128 := by
  have : szL L i = (x % 128 + 1).toNat := by simp [szL, h]
  omega
theorem fill_byte {s : Nat} {c : Int} (h : 0 ≤ c ∧ c ≤ 255) : ∀ x ∈ List.replicate s c, 0 ≤ x ∧ x ≤ 255 := fun x hx => by rw [List.eq_of_mem_replicate hx]; exact h
set_option maxRecDepth 100000 in
set_option maxHeartbeats 16000000 in
theorem walk (p0 : Option Addr) (L0 : List Int) (c0 : Nat) (a1 : Int) (a2 : Int) (a3 : ByteArray) (w : World) (hT : Tab w) (h0 : 0 < w.heap.size) (hL0 : Row8 w p0 L0) (w1 : (Lit.int .u8 a1).wf = true) (w2 : (Lit.int .u8 a2).wf = true) (w3 : a3.size ≤ maxLen) :
    Calls Tryd.prog 5 #[.slice p0 L0.length c0, .int .u8 a1, .int .u8 a2, .string a3] w fun e w' => e = .returned (.bool true) ∧ Below w.heap.size w w' := by
  have hw1 := wf_u8 w1
  have hw2 := wf_u8 w2
  have kw := fun W hT h0 => works_any W hT h0
  by_cases hl0 : L0.length = 0
  · have q0 : ((L0.length : Int) == 0) = true := by simp [hl0]
    have k9 := kw w hT h0
    go_enter Tryd.func5, Tryd.ntmps5
    go_wp2_with (go_at_call 9; refine k9.mono ?_; rintro e w3 ⟨rfl, hb⟩)
    all_goals go_returns
    exact ⟨rfl, hb⟩
  have q0 : ((L0.length : Int) == 0) = false := by simp; intro e; simp [e] at hl0
  have q00 : (L0.length == 0) = false := by simp; intro e; simp [e] at hl0
  by_cases hl1 : 100 < L0.length
  · have d1 : decide ((100 : Int) < (L0.length : Int)) = true := by simp; omega
    have k9 := kw w hT h0
    go_enter Tryd.func5, Tryd.ntmps5
    go_wp2_with (go_at_call 9; refine k9.mono ?_; rintro e w3 ⟨rfl, hb⟩)
    all_goals go_returns
    exact ⟨rfl, hb⟩
  have d1 : decide ((100 : Int) < (L0.length : Int)) = false := by simp; omega
  by_cases hl3 : 1024 < a3.size
  · have d3 : decide ((1024 : Int) < (a3.size : Int)) = true := by simp; omega
    have k9 := kw w hT h0
    go_enter Tryd.func5, Tryd.ntmps5
    go_wp2_with (go_at_call 9; refine k9.mono ?_; rintro e w3 ⟨rfl, hb⟩)
    all_goals go_returns
    exact ⟨rfl, hb⟩
  have d3 : decide ((1024 : Int) < (a3.size : Int)) = false := by simp; omega
  obtain ⟨wh, rfl⟩ : ∃ n : Nat, a1 = (n : Int) := ⟨a1.toNat, by omega⟩
  obtain ⟨ap, rfl⟩ : ∃ n : Nat, a2 = (n : Int) := ⟨a2.toNat, by omega⟩
  have k1 := new_any 65536 (by omega) w
  have hR0 : Hid (Row8 w p0 L0) := hL0
  clear hL0
  go_enter Tryd.func5, Tryd.ntmps5
  go_upto_region 6 with (go_at_call 10; refine k1.mono ?_; rintro e wa ⟨rfl, hSa, hba⟩)
  have hTa := hT.gr h0 hba
  clear k1
  generalize hB0 : w.heap.size = B at hSa hba h0 ⊢
  replace hB0 : Hid _ := hB0
  go_wp2
  go_loopw [11] (fun n11 wr => ∃ (i : Nat) (used : Int) (T : Nat → Th) (n : Nat), n11 = .int .i64 i ∧ i ≤ L0.length ∧ Sl wr B B 65536 used T n ∧ used ≤ 128 * i ∧ n ≤ i ∧ Co T L0 (fillC L0) i ∧ Tab wr ∧ Below B w wr) (fun n11 _ => L0.length - (valOf n11).toNat)
  case atStart => exact ⟨0, 0, _, 0, rfl, by omega, hSa, by omega, by omega, ⟨fun j hj => by omega, fun _ _ => rfl⟩, hTa, hba⟩
  case round =>
    obtain ⟨i, used, T, n, rfl, hi, hS, hus, hni, hCo, hTb, hbl⟩ := hrel
    have hwr : B ≤ wr.heap.size := by have := hB0.out; have := hbl.size; omega
    by_cases hin : i < L0.length
    · have d : decide ((i : Int) < L0.length) = true := by simp; omega
      have e9 : IntKind.i64.wrap ((i : Int) + 1) = (i : Int) + 1 := IntWalk.i64_in _ (by omega)
      have e8 : IntKind.u8.wrap (i : Int) = (i : Int) := IntWalk.u8_in _ (by omega)
      have e7 : (i : Int) % 256 = (i : Int) := by omega
      obtain ⟨xb, xo, x, hxi0, hxc, ⟨hx0, hx1⟩, hxb, hxi⟩ := idx8 hR0.out hin (by omega)
      obtain ⟨hs, hs1, hs2⟩ := szL_of hxi0 hx0 hx1
      have r0 := (hbl.cell (p := ⟨xb, xo, none⟩) (by have := hB0.out; simp; omega)).trans hxc
      have hxi' := hxi c0
      obtain ⟨f1, f2, f3, -⟩ := cls_facts hs1 hs2
      have kt := take_ok wr _ _ _ _ _ _ hS hTb (szL L0 i) ⟨hs1, hs2⟩ (by omega) hwr (by omega)
      have hfc : fillC L0 i = List.replicate (szL L0 i) (i : Int) := rfl
      replace hfc : Hid _ := hfc
      generalize szL L0 i = s at kt hs hs1 hs2 f1 f2 f3 hfc
      replace hs := hs.symm
      clear hxi hxc
      go_upto_region 11 with (go_at_call 19; refine kt.mono ?_; rintro e v1 ⟨k, rfl, hk1, hk2, hk3, ⟨hh, n', hn', hS1⟩, hF1⟩)
      have hki : k = i := by
        by_cases e : k < i
        · obtain ⟨h', e'⟩ := hCo.ins k e
          rw [e'] at hk1; cases hk1
        · by_cases e2 : k = i
          · exact e2
          · have a3' := hk2 i (by omega)
            rw [hCo.out i (Nat.le_refl _)] at a3'
            cases a3'
      subst hki
      have q1 : ((k : Int) == (k : Int)) = true := by simp
      have hv1 : B ≤ v1.heap.size := by have := hF1.bel.size; omega
      have kf := lfill_any s ⟨hs1, hs2⟩ (k : Int) (by omega) v1
      clear r0 hxi' kt
      replace hs : Hid _ := hs
      go_wp2_with (first
        | (go_at_call 22; refine kf.mono ?_; go_loud (rintro e v2 ⟨rfl, hg2, hb2⟩; have hS2 := hS1.kept hb2; have hcv := conv_row (s := s) hg2 (by simp); have kwr := write_ok v2 _ _ _ _ _ _ hS2 k (by unfold I64; omega) hh _ (upd_self _ _ _) 0 (strOfNums (List.replicate s (k : Int))) (by rw [strOfNums_size]; simp); rw [wr_full (fill_byte (by omega)) (by simp)] at kwr))
        | (go_at_call 21; refine kwr.mono ?_; go_loud (rintro e v3 ⟨rfl, hS3, hF3⟩)))
      refine ⟨⟨k + 1, _, _, n', by simp, by omega, hS3, by push_cast; omega, by omega, ⟨fun j hj => ?_, fun j hj => ?_⟩, ((hTb.gr h0 hF1.bel).gr (by omega) hb2).gr h0 hF3.bel, ((hbl.trans hF1.bel).trans (hb2.mono hv1)).trans hF3.bel⟩, by simp [valOf]; omega⟩
      · by_cases e : j = k
        · subst e
          exact ⟨hh, by rw [upd_self, hfc.out]⟩
        · rw [upd_ne _ _ e, upd_ne _ _ e]
          exact hCo.ins j (by omega)
      · rw [upd_ne _ _ (by omega), upd_ne _ _ (by omega)]
        exact hCo.out j (by omega)
    · have d : decide ((i : Int) < L0.length) = false := by simp; omega
      obtain rfl : i = L0.length := by omega
      have hkm : (wh : Int) % (L0.length : Int) = ((wh % L0.length : Nat) : Int) := by simp
      have hkl : wh % L0.length < L0.length := Nat.mod_lt _ (by omega)
      go_upto_region 14 with fail
      rw [hkm]
      generalize wh % L0.length = kq at hkl ⊢
      clear hkm
      obtain ⟨xb, xo, x, hxi0, hxc, ⟨hx0, hx1⟩, hxb, hxi⟩ := idx8 hR0.out hkl (by omega)
      obtain ⟨hs, hs1, hs2⟩ := szL_of hxi0 hx0 hx1
      have r0 := (hbl.cell (p := ⟨xb, xo, none⟩) (by have := hB0.out; simp; omega)).trans hxc
      have hxi' := hxi c0
      obtain ⟨hk', hTk⟩ := hCo.ins kq hkl
      have e6 : IntKind.i64.wrap ((ap : Int) + (a3.size : Int)) = (ap : Int) + (a3.size : Int) := IntWalk.i64_in _ (by omega)
      have hlk : (fillC L0 kq).length = szL L0 kq := by simp [fillC]
      clear hxi hxc
      obtain ⟨s, hs0⟩ : ∃ s, s = szL L0 kq := ⟨_, rfl⟩
      rw [← hs0] at hs hs1 hs2 hlk
      replace hs := hs.symm
      replace hs0 : Hid _ := hs0
      by_cases hfit : ap + a3.size ≤ s
      · have dF : decide ((ap : Int) + (a3.size : Int) ≤ (s : Int)) = true := by simp; omega
        have kwr := write_ok wr _ _ _ _ _ _ hS kq (by unfold I64; omega) hk' _ hTk ap a3 (by omega)
        go_upto_region 19 with (go_at_call 21; refine kwr.mono ?_; rintro e v1 ⟨rfl, hS1, hF1⟩)
        have hT1 := hTb.gr h0 hF1.bel
        have hbv := hbl.trans hF1.bel
        have hC1 : Co (upd T kq (some (hk', Go.Proofs.YtkjdnebmhljciaaDoor.wr (fillC L0 kq) ap a3))) L0 (fun j => if j = kq then Go.Proofs.YtkjdnebmhljciaaDoor.wr (fillC L0 kq) ap a3 else fillC L0 j) L0.length := ⟨fun j hj => by
          by_cases e : j = kq
          · subst e; exact ⟨hk', by rw [upd_self]; simp⟩
          · rw [upd_ne _ _ e]; simp only [if_neg e]; exact hCo.ins j hj, fun j hj => by rw [upd_ne _ _ (by omega)]; exact hCo.out j hj⟩
        clear kwr r0 hxi'
        go_wp2
        go_loopw [19] (fun n19 wk => ∃ i : Nat, n19 = .int .i64 i ∧ i ≤ L0.length ∧ Below v1.heap.size v1 wk) (fun n19 _ => L0.length - (valOf n19).toNat)
        case atStart => exact ⟨0, rfl, by omega, Below.refl _ _⟩
        case round =>
          obtain ⟨i, rfl, hi, hbk⟩ := hrel
          have hSk := hS1.kept hbk
          have hbw := (hbv).trans (hbk.mono (show B ≤ v1.heap.size by have := hF1.bel.size; omega))
          by_cases hin : i < L0.length
          · have d5 : decide ((i : Int) < L0.length) = true := by simp; omega
            have e9 : IntKind.i64.wrap ((i : Int) + 1) = (i : Int) + 1 := IntWalk.i64_in _ (by omega)
            have e8 : IntKind.u8.wrap (i : Int) = (i : Int) := IntWalk.u8_in _ (by omega)
            have e7 : (i : Int) % 256 = (i : Int) := by omega
            obtain ⟨yb, yo, y, hyi0, hyc, ⟨hy0, hy1⟩, hyb, hyi⟩ := idx8 hR0.out hin (by omega)
            obtain ⟨hz, hz1, hz2⟩ := szL_of hyi0 hy0 hy1
            have r2 := (hbw.cell (p := ⟨yb, yo, none⟩) (by have := hB0.out; simp; omega)).trans hyc
            have hyi' := hyi c0
            obtain ⟨hh, hTi⟩ := hC1.ins i hin
            have kf := lfill_any (szL L0 i) ⟨hz1, hz2⟩ (i : Int) (by omega) wr
            obtain ⟨z, hz0⟩ : ∃ z, z = szL L0 i := ⟨_, rfl⟩
            rw [← hz0] at hz hz1 hz2 kf
            replace hz := hz.symm
            have hlf : (fillC L0 i).length = z := by simp [fillC, hz0]
            have hlc : (if i = kq then Go.Proofs.YtkjdnebmhljciaaDoor.wr (fillC L0 kq) ap a3 else fillC L0 i).length = z := by
              by_cases e : i = kq
              · subst e; simp only [if_true]; rw [wr_len _ _ _ (by rw [hlf]; have := hs0.out; have := hz0; omega)]; exact hlf
              · simp only [if_neg e]; exact hlf
            have hfz : List.replicate z (i : Int) = fillC L0 i := by rw [fillC, hz0]
            rw [hfz] at kf
            replace hz0 : Hid _ := hz0
            replace hfz : Hid _ := hfz
            clear hyi hyc
            by_cases hik : i = kq
            · have q5 : ((i : Int) == (kq : Int)) = true := by simp; omega
              obtain ⟨off, ho1, ho2, hcut⟩ := cut_from wr.heap.size z ap (by have := hs0.out; have := hz0.out; subst hik; omega)
              replace hik : Hid (i = kq) := hik
              go_upto_region 26 with (go_at_call 22; refine kf.mono ?_; go_loud (rintro e v2 ⟨rfl, hg2, hb2⟩; have hcp := copy_row (off := off) hg2 hlf (t := a3) (by have := hs0.out; have := hz0.out; have hik' := hik.out; subst hik'; omega) ho1 ho2))
              have hg3 := setRow_heap v2 wr.heap.size (byV (fillC L0 i)) (byV (Go.Proofs.YtkjdnebmhljciaaDoor.wr (fillC L0 i) ap a3)) 5 (0, 0) hg2
              have hb3 : Below wr.heap.size v2 (v2.setRow wr.heap.size (byV (Go.Proofs.YtkjdnebmhljciaaDoor.wr (fillC L0 i) ap a3))) := ⟨rfl, rfl, rfl, by simp [World.setRow], fun j hj => setRow_other v2 wr.heap.size j _ (by omega)⟩
              have hcc : Go.Proofs.YtkjdnebmhljciaaDoor.wr (fillC L0 i) ap a3 = (if i = kq then Go.Proofs.YtkjdnebmhljciaaDoor.wr (fillC L0 kq) ap a3 else fillC L0 i) := by have hik' := hik.out; subst hik'; simp
              rw [hcc] at hg3 hb3 ⊢
              clear hcp hcut r2 hyi' kf
              generalize v2.setRow wr.heap.size (byV (if i = kq then Go.Proofs.YtkjdnebmhljciaaDoor.wr (fillC L0 kq) ap a3 else fillC L0 i)) = v3 at hg3 hb3 ⊢
              have hS3 := hSk.kept (hb2.trans hb3)
              have hb4 := hb2.trans hb3
              have hcv := conv_row (s := z) hg3 hlc
              have krd := read_ok v3 _ _ _ _ _ _ hS3 (i : Int) (by unfold I64; omega) hh _ (by rw [getT_nat]; exact hTi) 0 z (by rw [hlc]; omega)
              rw [show (((if i = kq then Go.Proofs.YtkjdnebmhljciaaDoor.wr (fillC L0 kq) ap a3 else fillC L0 i)).drop 0).take z = (if i = kq then Go.Proofs.YtkjdnebmhljciaaDoor.wr (fillC L0 kq) ap a3 else fillC L0 i) by rw [List.drop_zero, List.take_of_length_le (by omega)]] at krd
              generalize strOfNums (if i = kq then Go.Proofs.YtkjdnebmhljciaaDoor.wr (fillC L0 kq) ap a3 else fillC L0 i) = Z at hcv krd
              have q6 : (Z.toList == Z.toList) = true := by simp
              have q7 : (Z == Z) = true := MapKept.bytes_beq Z Z |>.2 rfl
              go_wp2_with (go_at_call 23; refine krd.mono ?_; rintro e w' ⟨rfl, hw⟩; rw [hw]; clear hw)
              exact ⟨⟨i + 1, by simp, by omega, hbk.trans (hb4.mono hbk.size)⟩, by simp [valOf]; omega⟩
            · have q5 : ((i : Int) == (kq : Int)) = false := by simp; omega
              go_upto_region 26 with (go_at_call 22; refine kf.mono ?_; rintro e v3 ⟨rfl, hg3, hb4⟩)
              have hcc : fillC L0 i = (if i = kq then Go.Proofs.YtkjdnebmhljciaaDoor.wr (fillC L0 kq) ap a3 else fillC L0 i) := by simp [hik]
              rw [hcc] at hg3
              clear r2 hyi' kf
              have hS3 := hSk.kept hb4
              have hcv := conv_row (s := z) hg3 hlc
              have krd := read_ok v3 _ _ _ _ _ _ hS3 (i : Int) (by unfold I64; omega) hh _ (by rw [getT_nat]; exact hTi) 0 z (by rw [hlc]; omega)
              rw [show (((if i = kq then Go.Proofs.YtkjdnebmhljciaaDoor.wr (fillC L0 kq) ap a3 else fillC L0 i)).drop 0).take z = (if i = kq then Go.Proofs.YtkjdnebmhljciaaDoor.wr (fillC L0 kq) ap a3 else fillC L0 i) by rw [List.drop_zero, List.take_of_length_le (by omega)]] at krd
              generalize strOfNums (if i = kq then Go.Proofs.YtkjdnebmhljciaaDoor.wr (fillC L0 kq) ap a3 else fillC L0 i) = Z at hcv krd
              have q6 : (Z.toList == Z.toList) = true := by simp
              have q7 : (Z == Z) = true := MapKept.bytes_beq Z Z |>.2 rfl
              go_wp2_with (go_at_call 23; refine krd.mono ?_; rintro e w' ⟨rfl, hw⟩; rw [hw]; clear hw)
              exact ⟨⟨i + 1, by simp, by omega, hbk.trans (hb4.mono hbk.size)⟩, by simp [valOf]; omega⟩
          · have d5 : decide ((i : Int) < L0.length) = false := by simp; omega
            have k9 := kw wr (hT1.gr (B := v1.heap.size) (by have := hF1.bel.size; omega) hbk) (by have := hbk.size; have := (show B ≤ v1.heap.size by have := hF1.bel.size; omega); omega)
            go_wp2_with (go_at_call 9; refine k9.mono ?_; rintro e v6 ⟨rfl, hb6⟩)
            all_goals go_returns
            have hB1 := hB0.out
            rw [hB1]
            exact ⟨rfl, hbw.trans (hb6.mono (by have := hbk.size; have := (show B ≤ v1.heap.size by have := hF1.bel.size; omega); omega))⟩
      · have dF : decide ((ap : Int) + (a3.size : Int) ≤ (s : Int)) = false := by simp; omega
        have kwr := write_bad wr _ _ _ _ _ _ hS (kq : Int) (by unfold I64; omega) (ap : Int) a3 (by unfold I64; omega) w3 120 (by
          rw [getT_nat, hTk]
          simp only [partE]
          rw [if_neg (by rw [hlk]; omega)]) (by omega)
        go_upto_region 19 with (go_at_call 21; refine kwr.mono ?_; rintro e v1 ⟨rfl, hw⟩; rw [hw]; clear hw)
        clear kwr r0 hxi'
        obtain ⟨WZ, hWZ⟩ : ∃ x, x = wr := ⟨wr, rfl⟩
        subst hWZ
        go_wp2
        go_loopw [19] (fun n19 wk => ∃ i : Nat, n19 = .int .i64 i ∧ i ≤ L0.length ∧ Below WZ.heap.size WZ wk) (fun n19 _ => L0.length - (valOf n19).toNat)
        case atStart => exact ⟨0, rfl, by omega, Below.refl _ _⟩
        case round =>
          obtain ⟨i, rfl, hi, hbk⟩ := hrel
          have hSk := hS.kept hbk
          have hbw := (hbl).trans (hbk.mono hwr)
          by_cases hin : i < L0.length
          · have d5 : decide ((i : Int) < L0.length) = true := by simp; omega
            have e9 : IntKind.i64.wrap ((i : Int) + 1) = (i : Int) + 1 := IntWalk.i64_in _ (by omega)
            have e8 : IntKind.u8.wrap (i : Int) = (i : Int) := IntWalk.u8_in _ (by omega)
            have e7 : (i : Int) % 256 = (i : Int) := by omega
            obtain ⟨yb, yo, y, hyi0, hyc, ⟨hy0, hy1⟩, hyb, hyi⟩ := idx8 hR0.out hin (by omega)
            obtain ⟨hz, hz1, hz2⟩ := szL_of hyi0 hy0 hy1
            have r2 := (hbw.cell (p := ⟨yb, yo, none⟩) (by have := hB0.out; simp; omega)).trans hyc
            have hyi' := hyi c0
            obtain ⟨hh, hTi⟩ := hCo.ins i hin
            have kf := lfill_any (szL L0 i) ⟨hz1, hz2⟩ (i : Int) (by omega) wr
            obtain ⟨z, hz0⟩ : ∃ z, z = szL L0 i := ⟨_, rfl⟩
            rw [← hz0] at hz hz1 hz2 kf
            replace hz := hz.symm
            have hlf : (fillC L0 i).length = z := by simp [fillC, hz0]
            have hlc : (fillC L0 i).length = z := by
              exact hlf
            have hfz : List.replicate z (i : Int) = fillC L0 i := by rw [fillC, hz0]
            rw [hfz] at kf
            replace hz0 : Hid _ := hz0
            replace hfz : Hid _ := hfz
            clear hyi hyc
            by_cases hik : i = kq
            · have q5 : ((i : Int) == (kq : Int)) = true := by simp; omega
              replace hik : Hid _ := hik
              go_upto_region 26 with (go_at_call 22; refine kf.mono ?_; rintro e v3 ⟨rfl, hg3, hb4⟩)
              clear r2 hyi' kf
              have hS3 := hSk.kept hb4
              have hcv := conv_row (s := z) hg3 hlc
              have krd := read_ok v3 _ _ _ _ _ _ hS3 (i : Int) (by unfold I64; omega) hh _ (by rw [getT_nat]; exact hTi) 0 z (by rw [hlc]; omega)
              rw [show (((fillC L0 i)).drop 0).take z = (fillC L0 i) by rw [List.drop_zero, List.take_of_length_le (by omega)]] at krd
              generalize strOfNums (fillC L0 i) = Z at hcv krd
              have q6 : (Z.toList == Z.toList) = true := by simp
              have q7 : (Z == Z) = true := MapKept.bytes_beq Z Z |>.2 rfl
              go_wp2_with (go_at_call 23; refine krd.mono ?_; rintro e w' ⟨rfl, hw⟩; rw [hw]; clear hw)
              exact ⟨⟨i + 1, by simp, by omega, hbk.trans (hb4.mono hbk.size)⟩, by simp [valOf]; omega⟩
            · have q5 : ((i : Int) == (kq : Int)) = false := by simp; omega
              go_upto_region 26 with (go_at_call 22; refine kf.mono ?_; rintro e v3 ⟨rfl, hg3, hb4⟩)
              clear r2 hyi' kf
              have hS3 := hSk.kept hb4
              have hcv := conv_row (s := z) hg3 hlc
              have krd := read_ok v3 _ _ _ _ _ _ hS3 (i : Int) (by unfold I64; omega) hh _ (by rw [getT_nat]; exact hTi) 0 z (by rw [hlc]; omega)
              rw [show (((fillC L0 i)).drop 0).take z = (fillC L0 i) by rw [List.drop_zero, List.take_of_length_le (by omega)]] at krd
              generalize strOfNums (fillC L0 i) = Z at hcv krd
              have q6 : (Z.toList == Z.toList) = true := by simp
              have q7 : (Z == Z) = true := MapKept.bytes_beq Z Z |>.2 rfl
              go_wp2_with (go_at_call 23; refine krd.mono ?_; rintro e w' ⟨rfl, hw⟩; rw [hw]; clear hw)
              exact ⟨⟨i + 1, by simp, by omega, hbk.trans (hb4.mono hbk.size)⟩, by simp [valOf]; omega⟩
          · have d5 : decide ((i : Int) < L0.length) = false := by simp; omega
            have k9 := kw wr (hTb.gr (B := WZ.heap.size) (by omega) hbk) (by have := hbk.size; have := hwr; omega)
            go_wp2_with (go_at_call 9; refine k9.mono ?_; rintro e v6 ⟨rfl, hb6⟩)
            all_goals go_returns
            have hB1 := hB0.out
            rw [hB1]
            exact ⟨rfl, hbw.trans (hb6.mono (by have := hbk.size; have := hwr; omega))⟩

theorem readable : ∀ t ∈ Tryd.f5.params.toList, Tryd.prog.readableRec t = true ∧ t < Tryd.prog.types.size := by
  rw [Tryd.params5]
  intro t ht
  simp at ht
  rcases ht with rfl | rfl | rfl | rfl
  all_goals exact ⟨by kernel_rfl, of_decide_eq_true (by kernel_rfl)⟩
set_option maxRecDepth 100000 in
theorem lifted (os : Os) (started : os.Started) (H : Type) (enc : TypeId × Value → H) :
    ReturnsInHanded {} Tryd.checked os 5 .any (fun w args => (Rows.slabApartSpec.pre enc Tryd.prog Tryd.f5 [] false w args ∧ laidMetH Tryd.prog laidL w) ∧ sizedMet enc Tryd.prog Tryd.f5 (OpenSpec.ofChange Rows.slabApartSpec) false w args) (Rows.slabApartSpec.post enc Tryd.prog Tryd.f5 false true false false) := by
  refine returnsInHanded_of_change_and (C := Tryd.checked) (X := fun w _ => laidMetH Tryd.prog laidL w) (fun _ _ _ hh h => h.of_heap hh) own started (by kernel_rfl) Tryd.func5
    (ChangeSpec.witness_shaped (enc := enc) (C := Tryd.checked) (os := os) (X := fun w _ => laidMetH Tryd.prog laidL w) false (World.doorLaid Tryd.prog 400 os) #[.slice none 0 0, .int .u8 0, .int .u8 0, .string ByteArray.empty] 8 rfl (World.shaped_of_RefB (by kernel_rfl) (by kernel_rfl)) (by kernel_rfl) (by kernel_rfl) (by kernel_rfl) (door_met os _)) ?_
  intro W base args ds gs before hval0 hW _ _ hL _
  have hval : ∀ (j : Nat) t v, Tryd.f5.params[j]? = some t → args[j]? = some v → Value.okWide Tryd.prog W .any base t v := hval0
  have hW' := hW
  obtain ⟨p, q, hA0, hV, rfl, hfz, hnd⟩ := hW
  have hA : DataW.TrodAll enc Tryd.prog W 0 (fun _ => true) true Tryd.f5.params.toList args.toList ds p := hA0
  rw [Tryd.params5] at hA hval
  obtain ⟨v0, vs0, d0, ds0, p0, q0, hargs, rfl, rfl, h0, r0⟩ := trodAll_cons hA
  obtain ⟨v1, vs1, d1, ds1, p1, q1, rfl, rfl, rfl, h1, r1⟩ := trodAll_cons r0
  obtain ⟨v2, vs2, d2, ds2, p2, q2, rfl, rfl, rfl, h2, r2⟩ := trodAll_cons r1
  obtain ⟨v3, vs3, d3, ds3, p3, q3, rfl, rfl, rfl, h3, r3⟩ := trodAll_cons r2
  obtain ⟨rfl, rfl, rfl⟩ := trodAll_nil r3
  obtain rfl : args = #[v0, v1, v2, v3] := by cases args; simp_all
  obtain ⟨rfl, rfl⟩ := trodVars_none hV
  obtain ⟨p0, L0, c0, rfl, hL0⟩ := open_row8 (hval 0 46 v0 rfl rfl) h0
  obtain ⟨a1, rfl, rfl, rfl, w1⟩ := open_int Tryd.underlying5 (hval 1 5 v1 rfl rfl) h1
  obtain ⟨a2, rfl, rfl, rfl, w2⟩ := open_int Tryd.underlying5 (hval 2 5 v2 rfl rfl) h2
  obtain ⟨a3, rfl, rfl, rfl, w3⟩ := Go.ChangeMaps.open_string Tryd.underlying9 (hval 3 9 v3 rfl rfl) h3
  clear hA0 hval0
  obtain ⟨hTab, hpos⟩ := tab_of hL
  refine (walk p0 L0 c0 a1 a2 a3 W hTab hpos hL0 w1 w2 w3).mono fun e W' ⟨he, hg⟩ => ?_
  subst he
  exact ⟨_, rfl, post_bel readable hW' rfl (fun _ _ _ => (trodAll_cons_mk (shut_bool Tryd.underlying4 _) trodAll_mk0)) rfl (fun _ => rfl)
    hg (ok_one (by kernel_rfl) rfl (okWide_bool_mk Tryd.underlying4 _))⟩

theorem over : Rows.SlabApartSaid :=
  OpenClaim.holds_of_wide 5 Tryd.f5 rfl rfl rfl rfl rfl rfl rfl ⟨rfl, rfl, rfl, rfl, rfl⟩ rfl rfl rfl rfl rfl (by kernel_rfl) Tryd.func5 (by kernel_rfl)
    (of_decide_eq_true (by kernel_rfl)) (by unfold Func.isWrapper; first | (rw [if_pos (by decide +kernel)]; kernel_rfl) | (rw [if_neg (by decide +kernel)]; exact ⟨rfl, rfl⟩))
    (fun os started H enc _ => lifted os started H enc)
end Go.Proofs.YtkjdnebmhljciaaDoor.slabApart
namespace Go.Proofs.YtkjdnebmhljciaaDoor
theorem slabApart_holds : Rows.SlabApartCardSaid :=
  Claim7.holds_tied_plain_at .later [] [.data] true (true, "d08cc78eabc309313952ab51cf6bb01585a3f0dccbd52a6795d3e19212e06ae1") false
    slabApart.over (fun _ h => by cases h) (by kernel_rfl) (fun _ h => by cases h) slabApart_row_tie rfl ⟨rfl, rfl⟩ (by kernel_rfl) rfl
    (fun f fn hf hfn => by
      obtain rfl : f = 5 := Option.some.inj ((show Tryd.prog.funcNamed "warden/wardenlaw12.SlabApart" = some 5 by kernel_rfl).symm.trans hf) |>.symm
      obtain rfl : fn = Tryd.f5 := (Option.some.inj (Tryd.func5.symm.trans hfn)).symm
      exact ⟨by kernel_rfl, fun j t ht => by
        rw [Tryd.params5] at ht
        have hm : t ∈ [46, 5, 5, 9] := by simpa using Array.mem_of_getElem? ht
        have hall : ([46, 5, 5, 9].all fun u => !Tryd.prog.wantsStandIn u) = true := by kernel_rfl
        exact (show Tryd.prog.wantsStandIn t = false by simpa using List.all_eq_true.1 hall t hm)⟩)
    (by kernel_rfl)
#print axioms slabApart_holds
end Go.Proofs.YtkjdnebmhljciaaDoor
