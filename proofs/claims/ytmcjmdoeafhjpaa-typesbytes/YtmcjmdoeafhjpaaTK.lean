/- Towards the statements of package types (layer 10): areBytes. -/
import Derived.Test.YtmcjmdoeafhjpaaTJ
namespace Go.Proofs.Ytmcjmdoeafhjpaa
open Go.ChangeShapes Go.WideShapes Go.ChangeAt Go.RowKit
set_option linter.unusedVariables false
set_option linter.unusedSimpArgs false
set_option maxRecDepth 20000

set_option maxHeartbeats 4000000 in
theorem areBytes_any (p : Option Addr) (c : Nat) (L : List Ty) (w : World) (hL : Tys w p L) : Calls Try.prog 27 #[.slice p L.length c] w fun e w' => e = .returned (.bool (areB L)) ∧ Bl w w' := by
  have hlen := hL.len
  unfold maxLen at hlen
  have k1 := fun W => isByte_any _ 1 [(L.length : Int)] _ (rowi_new W [(L.length : Int)] (by simp) 3)
  have hq1 : [(L.length : Int)].all inB = inB L.length := by simp
  rw [hq1] at k1
  clear hq1
  unfold areB
  cases h0 : inB L.length with
  | false =>
    rw [h0] at k1
    go_enter Try.func27, Try.ntmps27
    go_wp2_with (go_at_call 60; refine (k1 _).mono ?_; rintro e w5 ⟨rfl, hw⟩; rw [hw]; clear hw)
    go_returns
    exact ⟨rfl, (Bl.refl _).alloc _⟩
  | true =>
  rw [h0] at k1
  rw [Bool.true_and]
  clear h0
  generalize hans : L.all tyB = ans
  replace hans : Hid (L.all tyB = ans) := hans
  go_enter Try.func27, Try.ntmps27
  go_wp2_with (go_at_call 60; refine (k1 _).mono ?_; rintro e w5 ⟨rfl, hw⟩; rw [hw]; clear hw)
  go_loopw [14] (fun n wr => ∃ i : Nat, n = .int .i64 i ∧ i ≤ L.length ∧ L.all tyB = (L.drop i).all tyB ∧ Bl w wr) (fun n _ => L.length - (intOf n).toNat)
  case atStart => exact ⟨0, rfl, by omega, by rw [List.drop_zero], (Bl.refl _).alloc _⟩
  case round =>
    clear k1
    obtain ⟨i, rfl, hi, hA, hb⟩ := hrel
    replace hA : Hid (L.all tyB = (L.drop i).all tyB) := hA
    by_cases h : i < L.length
    · have d : decide ((i : Int) < L.length) = true := by simp; omega
      obtain ⟨t, hxk⟩ : ∃ t, L[i]? = some t := ⟨L[i], List.getElem?_eq_getElem _⟩
      have hdr : Hid (L.drop i = t :: L.drop (i + 1)) := drop_get hxk
      have e9 : IntKind.i64.wrap ((i : Int) + 1) = (i : Int) + 1 := IntWalk.i64_in _ (by omega)
      obtain ⟨b, off, rfl, hb1, ⟨c0, c1, c2⟩, hok, hil⟩ := (hL.gr hb).get hxk
      have hfl := hok.f.len
      unfold maxLen at hfl
      clear hxk
      have hmem : t ∈ L := List.mem_of_mem_drop (by rw [hdr.out]; exact List.mem_cons_self)
      have hpp : t.fs = [] ∨ ∃ b5 off5, t.p = some ⟨b5, off5, none⟩ := by
        rcases hok.f.at' with h | ⟨b5, off5, h, _⟩
        · exact .inl h
        · exact .inr ⟨b5, off5, h⟩
      replace hmem : Hid (t ∈ L) := hmem
      obtain ⟨tn, ts, tp, tc, tfs⟩ := t
      dsimp only at *
      rcases hpp with hnil | ⟨b5, off5, rfl⟩
      · replace hnil : Hid (tfs = []) := hnil
        have k3 := isByte_any _ 3 [(tn.size : Int), ts, (tfs.length : Int)] _ (rowi_new (wr.alloc (.cells #[.string tn, .int .i64 ts, .slice tp tfs.length tc] 42)) [(tn.size : Int), ts, (tfs.length : Int)] (by simp) 3)
        have hq3 : [(tn.size : Int), ts, (tfs.length : Int)].all inB = (inB tn.size && inB ts && inB tfs.length) := by simp [Bool.and_assoc]
        rw [hq3] at k3
        clear hq3
        simp only [size_new, List.length_cons, List.length_nil, List.map_cons, List.map_nil, Nat.zero_add, Nat.reduceAdd] at k3
        cases hq : (inB tn.size && inB ts && inB tfs.length) with
        | false =>
          rw [hq] at k3
          have hr : Hid (ans = false) := by
            show ans = false
            rw [← hans.out, hA.out, hdr.out, List.all_cons, tyB]
            dsimp only
            rw [hq]; rfl
          clear hq
          go_wp2_with (go_at_call 60; refine k3.mono ?_; rintro e w5 ⟨rfl, hw⟩; rw [hw]; clear hw)
          try rw [Exit.noGoto_ret]
          go_returns
          exact ⟨by rw [hr.out]; try rfl, (hb.alloc _).alloc _⟩
        | true =>
          rw [hq] at k3
          replace hq : Hid ((inB tn.size && inB ts && inB tfs.length) = true) := hq
          go_wp2_with (go_at_call 60; refine k3.mono ?_; rintro e w5 ⟨rfl, hw⟩; rw [hw]; clear hw)
          go_loopw [32] (fun n wr => ∃ k : Nat, n = .int .i64 k ∧ k ≤ tfs.length ∧ tfs.all fldB = (tfs.drop k).all fldB ∧ Bl w wr) (fun n _ => tfs.length - (intOf n).toNat)
          case atStart => exact ⟨0, rfl, by omega, by rw [List.drop_zero], (hb.alloc _).alloc _⟩
          case round =>
            clear hb c0 c1 c2
            obtain ⟨m, rfl, hm, hG, hb⟩ := hrel
            replace hG : Hid (tfs.all fldB = (tfs.drop m).all fldB) := hG
            by_cases hmt : m < tfs.length
            · exact absurd hmt (by rw [hnil.out]; simp)
            · have dm : decide ((m : Int) < tfs.length) = false := by simp; omega
              have hH : Hid (L.all tyB = (L.drop (i + 1)).all tyB) := by
                show _ = _
                rw [hA.out, hdr.out, List.all_cons, tyB]
                dsimp only
                rw [hq.out, hG.out, List.drop_eq_nil_of_le (by omega)]; simp
              go_wp2
              exact ⟨⟨i + 1, by simp, by omega, hH.out, hb⟩, by simp [intOf]; omega⟩
      · have k3 := isByte_any _ 3 [(tn.size : Int), ts, (tfs.length : Int)] _ (rowi_new (wr.alloc (.cells #[.string tn, .int .i64 ts, .slice (some ⟨b5, off5, none⟩) tfs.length tc] 42)) [(tn.size : Int), ts, (tfs.length : Int)] (by simp) 3)
        have hq3 : [(tn.size : Int), ts, (tfs.length : Int)].all inB = (inB tn.size && inB ts && inB tfs.length) := by simp [Bool.and_assoc]
        rw [hq3] at k3
        clear hq3
        simp only [size_new, List.length_cons, List.length_nil, List.map_cons, List.map_nil, Nat.zero_add, Nat.reduceAdd] at k3
        cases hq : (inB tn.size && inB ts && inB tfs.length) with
        | false =>
          rw [hq] at k3
          have hr : Hid (ans = false) := by
            show ans = false
            rw [← hans.out, hA.out, hdr.out, List.all_cons, tyB]
            dsimp only
            rw [hq]; rfl
          clear hq
          go_wp2_with (go_at_call 60; refine k3.mono ?_; rintro e w5 ⟨rfl, hw⟩; rw [hw]; clear hw)
          try rw [Exit.noGoto_ret]
          go_returns
          exact ⟨by rw [hr.out]; try rfl, (hb.alloc _).alloc _⟩
        | true =>
          rw [hq] at k3
          replace hq : Hid ((inB tn.size && inB ts && inB tfs.length) = true) := hq
          go_wp2_with (go_at_call 60; refine k3.mono ?_; rintro e w5 ⟨rfl, hw⟩; rw [hw]; clear hw)
          go_loopw [32] (fun n wr => ∃ k : Nat, n = .int .i64 k ∧ k ≤ tfs.length ∧ tfs.all fldB = (tfs.drop k).all fldB ∧ Bl w wr) (fun n _ => tfs.length - (intOf n).toNat)
          case atStart => exact ⟨0, rfl, by omega, by rw [List.drop_zero], (hb.alloc _).alloc _⟩
          case round =>
            clear hb c0 c1 c2
            obtain ⟨m, rfl, hm, hG, hb⟩ := hrel
            replace hG : Hid (tfs.all fldB = (tfs.drop m).all fldB) := hG
            by_cases hmt : m < tfs.length
            · have dm : decide ((m : Int) < tfs.length) = true := by simp; omega
              obtain ⟨x, hxm⟩ : ∃ x, tfs[m]? = some x := ⟨tfs[m], List.getElem?_eq_getElem _⟩
              have hdm : Hid (tfs.drop m = x :: tfs.drop (m + 1)) := drop_get hxm
              have e8 : IntKind.i64.wrap ((m : Int) + 1) = (m : Int) + 1 := IntWalk.i64_in _ (by omega)
              have hok4 := (hL.gr hb).ok _ hmem.out
              obtain ⟨b6, off6, hp5, hb5, ⟨z0, z1, z2, z3, z4⟩, hxok, _⟩ := hok4.f.get hxm
              cases hp5
              have k4 := isByte_any _ 4 [(x.n.size : Int), x.a, x.o, x.d] _ (rowi_new (wr.alloc (.cells #[.string x.n, .int .u8 x.k, .int .i64 x.a, .int .i64 x.o, .int .i64 x.d] 48)) [(x.n.size : Int), x.a, x.o, x.d] (by simp) 3)
              have hq4 : [(x.n.size : Int), x.a, x.o, x.d].all inB = fldB x := by simp [fldB, Bool.and_assoc]
              rw [hq4] at k4
              simp only [size_new, List.length_cons, List.length_nil, List.map_cons, List.map_nil, Nat.zero_add, Nat.reduceAdd] at k4
              clear hxm hq4
              cases hz : fldB x with
              | false =>
                rw [hz] at k4
                have hr : Hid (ans = false) := by
                  show ans = false
                  rw [← hans.out, hA.out, hdr.out, List.all_cons, tyB]
                  dsimp only
                  rw [hG.out, hdm.out, List.all_cons, hz]; simp
                clear hz
                go_wp2_with (go_at_call 60; refine k4.mono ?_; rintro e w6 ⟨rfl, hw⟩; rw [hw]; clear hw)
                try rw [Exit.noGoto_ret]
                go_returns
                exact ⟨by rw [hr.out]; try rfl, (hb.alloc _).alloc _⟩
              | true =>
                rw [hz] at k4
                have hG2 : Hid (tfs.all fldB = (tfs.drop (m + 1)).all fldB) := by
                  show _ = _
                  rw [hG.out, hdm.out, List.all_cons, hz]; simp
                clear hz
                go_wp2_with (go_at_call 60; refine k4.mono ?_; rintro e w6 ⟨rfl, hw⟩; rw [hw]; clear hw)
                exact ⟨⟨m + 1, by simp, by omega, hG2.out, (hb.alloc _).alloc _⟩, by simp [intOf]; omega⟩
            · have dm : decide ((m : Int) < tfs.length) = false := by simp; omega
              have hH : Hid (L.all tyB = (L.drop (i + 1)).all tyB) := by
                show _ = _
                rw [hA.out, hdr.out, List.all_cons, tyB]
                dsimp only
                rw [hq.out, hG.out, List.drop_eq_nil_of_le (by omega)]; simp
              go_wp2
              exact ⟨⟨i + 1, by simp, by omega, hH.out, hb⟩, by simp [intOf]; omega⟩
    · have d : decide ((i : Int) < L.length) = false := by simp; omega
      have hr : Hid (ans = true) := by
        show ans = _
        rw [← hans.out, hA.out, List.drop_eq_nil_of_le (by omega)]; rfl
      go_wp2
      go_returns
      exact ⟨by rw [hr.out]; try rfl, hb⟩
end Go.Proofs.Ytmcjmdoeafhjpaa
