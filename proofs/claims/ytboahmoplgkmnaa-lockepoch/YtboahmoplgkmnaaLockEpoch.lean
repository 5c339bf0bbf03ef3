/- LockEpoch: the epoch counts just those that were given back: the statement as given. No condition. -/
import Derived.Test.YtboahmoplgkmnaaKB
import Derived.BigQuiet
import Derived.WalkKit
import Derived.ProofKit
import Derived.OpenShut
import Derived.ShutString
namespace Go.Proofs.Ytboahmoplgkmnaa.lockEpoch
open Go.ChangeShapes Go.WideShapes Go.ChangeAt Go.RowKit
open Go.ChangeMaps (open_string shut_string)
set_option linter.unusedVariables false
set_option linter.unusedSimpArgs false

theorem own : ownKnob Try.prog.godebug = none := by kernel_rfl

set_option maxRecDepth 100000 in
set_option maxHeartbeats 16000000 in
theorem walk (p0 : Option Addr) (L0 : List St) (c0 : Nat) (w : World) (hL0 : Sts w p0 L0) :
    Calls Try.prog 5 #[.slice p0 L0.length c0] w fun e w' => e = .returned (.bool true) ∧ Below w.heap.size w w' := by
  have kw := fun W => works_any W
  by_cases hlong : 300 < L0.length
  · have d : decide ((300 : Int) < (L0.length : Int)) = true := by simp; omega
    go_enter Try.func5, Try.ntmps5
    go_wp2_with (go_at_call 7; refine (kw _).mono ?_; rintro e w3 ⟨rfl, hb⟩)
    all_goals go_returns
    exact ⟨rfl, hb⟩
  have d1 : decide ((300 : Int) < (L0.length : Int)) = false := by simp; omega
  have k1 := new_any w
  go_enter Try.func5, Try.ntmps5
  go_upto_region 4 with (go_at_call 8; refine k1.mono ?_; rintro e w1 ⟨rfl, h1, hb1⟩)
  clear k1
  generalize hB0 : w.heap.size = B at h1 hb1 ⊢
  replace hB0 : Hid _ := hB0
  replace hL0 : Hid _ := hL0
  go_wp2
  go_loopw [4] (fun n4 wr => ∃ i : Nat, n4 = .int .i64 i ∧ i ≤ L0.length ∧ Lk wr B 0 0 false i ∧ Below B w wr) (fun n4 _ => L0.length - (valOf n4).toNat)
  case atStart => exact ⟨0, rfl, by omega, h1, hb1⟩
  case round =>
    clear h1 hb1
    obtain ⟨i, rfl, hi, hk, hbl⟩ := hrel
    by_cases hin : i < L0.length
    · have d : decide ((i : Int) < L0.length) = true := by simp; omega
      have e9 : IntKind.i64.wrap ((i : Int) + 1) = (i : Int) + 1 := IntWalk.i64_in _ (by omega)
      have e8 : IntKind.u64.wrap (i : Int) = (i : Int) := IntWalk.u64_in _ (by omega)
      have e7 : IntKind.u64.wrap ((i : Int) + 1) = (i : Int) + 1 := IntWalk.u64_in _ (by omega)
      have hi2 : i < 18446744073709551615 := by omega
      obtain ⟨xb, xo, ⟨xd, xm, xs⟩, hxi, hsx, hxb, _, hai⟩ := idxS hL0.out hin
      have hxB : xb < B := by rw [← hB0.out]; exact hxb
      have hai' := hai c0
      have c1 : wr.drew.cell? ⟨xb, xo + 1, none⟩ = some (.int .i64 xm) := (hbl.cell (p := ⟨xb, xo + 1, none⟩) hxB).trans hsx.c1
      have c2 : wr.drew.cell? ⟨xb, xo + 2, none⟩ = some (.int .i64 xs) := (hbl.cell (p := ⟨xb, xo + 2, none⟩) hxB).trans hsx.c2
      have g0 : w.cell? ⟨xb, xo, none⟩ = some (.bool xd) := hsx.c0
      clear hai hxi hsx
      have hd : Lk wr.drew B 0 0 false i := hk
      have hbd : Below B w wr.drew := hbl.drew
      have k2 := take_ok wr.drew hd xm xs
      clear hk
      go_upto_region 7 with fail
      go_region_held3 (fun w' => w'.cell? ⟨xb, xo + 1, none⟩ = some (.int .i64 xm) ∧ w'.cell? ⟨xb, xo + 2, none⟩ = some (.int .i64 xs)) ((refine ⟨?_, ?_⟩ <;> repeat (with_reducible (first | assumption | apply cell_dr)))) (first
        | (go_at_call 10; refine k2.mono ?_; rintro e w2 ⟨rfl, h2, hf2⟩; have u1 := (hf2.bel.cell (p := ⟨xb, xo + 1, none⟩) hxB).trans c1; have u2 := (hf2.bel.cell (p := ⟨xb, xo + 2, none⟩) hxB).trans c2; have k3 := epoch_any w2 h2; have k4 := give_ok w2 h2 hi2)
        | (go_at_call 12; refine k3.mono ?_; clear k3; rintro e w3 ⟨rfl, hw⟩; rw [hw]; clear hw)
        | (go_at_call 9; refine k4.mono ?_; clear k4; rintro e w4 ⟨rfl, h4, hf4⟩; have v1 := (hf4.bel.cell (p := ⟨xb, xo + 1, none⟩) hxB).trans u1; have v2 := (hf4.bel.cell (p := ⟨xb, xo + 2, none⟩) hxB).trans u2; have k5 := epoch_any w4 h4)
        | (go_at_call 12; refine k5.mono ?_; clear k5; rintro e w5 ⟨rfl, hw⟩; rw [hw]; clear hw))
      all_goals
        have hb4 : Below B w w4 := (hbd.trans hf2.bel).trans hf4.bel
        have g1 : w4.drew.cell? ⟨xb, xo, none⟩ = some (.bool xd) := (hb4.cell (p := ⟨xb, xo, none⟩) hxB).trans g0
        have g2 : w4.cell? ⟨xb, xo, none⟩ = some (.bool xd) := g1
        have h5 : Lk w4.drew B 0 0 false (i + 1) := h4
        have hb5 : Below B w w4.drew := hb4.drew
        have hBl := h5.lt
        have k6 := give_bad w4.drew h5 xm xs (by simp)
        clear k2 hf2 hf4 hbd c1 c2 hd hbl g0 h4 u1 u2
        go_upto_region 9 with fail
        cases xd with
        | false =>
          go_quiet (fail)
          go_wp2
          all_goals exact ⟨⟨i + 1, by simp, by omega, h5, bel_dN hb4 _⟩, by simp [valOf]; omega⟩
        | true =>
          have v1 : w4.drew.cell? ⟨xb, xo + 1, none⟩ = some (.int .i64 xm) := v1
          have v2 : w4.drew.cell? ⟨xb, xo + 2, none⟩ = some (.int .i64 xs) := v2
          go_region_held3 (fun w' => w'.cell? ⟨xb, xo, none⟩ = some (.bool true) ∧ w'.cell? ⟨xb, xo + 1, none⟩ = some (.int .i64 xm) ∧ w'.cell? ⟨xb, xo + 2, none⟩ = some (.int .i64 xs)) ((refine ⟨?_, ?_, ?_⟩ <;> repeat (with_reducible (first | assumption | apply cell_dr)))) (first
            | (go_at_call 9; refine k6.mono ?_; rintro e w6 ⟨rfl, hb6⟩; have h6 := h5.bel hb6; have t0 := (hb6.cell (p := ⟨xb, xo, none⟩) (Nat.lt_trans hxB hBl)).trans g1; have t1 := (hb6.cell (p := ⟨xb, xo + 1, none⟩) (Nat.lt_trans hxB hBl)).trans v1; have t2 := (hb6.cell (p := ⟨xb, xo + 2, none⟩) (Nat.lt_trans hxB hBl)).trans v2; have k7 := epoch_any w6 h6)
            | (go_at_call 12; refine k7.mono ?_; clear k7; rintro e w7 ⟨rfl, hw⟩; rw [hw]; clear hw))
          all_goals go_wp2
          all_goals exact ⟨⟨i + 1, by simp, by omega, h6, hb5.trans (hb6.mono (Nat.le_of_lt hBl))⟩, by simp [valOf]; omega⟩
    · have d : decide ((i : Int) < L0.length) = false := by simp; omega
      have hend : Below w.heap.size w wr := by rw [hB0.out]; exact hbl
      go_wp2_with (go_at_call 7; refine (kw _).mono ?_; rintro e v1 ⟨rfl, hv1⟩)
      all_goals go_returns
      exact ⟨rfl, hend.trans (hv1.mono hend.size)⟩

theorem readable : ∀ t ∈ Try.f5.params.toList, Try.prog.readableRec t = true ∧ t < Try.prog.types.size := by
  rw [Try.params5]
  intro t ht
  simp at ht
  rcases ht with rfl
  all_goals exact ⟨by kernel_rfl, of_decide_eq_true (by kernel_rfl)⟩
set_option maxRecDepth 100000 in
theorem lifted (os : Os) (started : os.Started) (H : Type) (enc : TypeId × Value → H) :
    ReturnsInHanded {} Try.checked os 5 .any (Rows.lockEpochSpec.pre6 enc Try.prog Try.f5 Rows.lockEpochRow.domain false) (Rows.lockEpochSpec.post enc Try.prog Try.f5 false true false false) := by
  refine returnsInHanded_of_change (C := Try.checked) own started (by kernel_rfl) Try.func5
    (ChangeSpec.witness6 (enc := enc) (C := Try.checked) false ⟨#[], #[.slice none 0 0], []⟩ 8 (by kernel_rfl) (by kernel_rfl) (by kernel_rfl) (by kernel_rfl)) ?_
  intro W base args ds gs before hval0 hW hcnd _
  have hval : ∀ (j : Nat) t v, Try.f5.params[j]? = some t → args[j]? = some v → Value.okWide Try.prog W .any base t v := hval0
  have hW' := hW
  obtain ⟨p, q, hA0, hV, rfl, hfz, hnd⟩ := hW
  have hA : DataW.TrodAll enc Try.prog W 0 (fun _ => true) true Try.f5.params.toList args.toList ds p := hA0
  rw [Try.params5] at hA hval
  obtain ⟨v0, vs0, d0, ds0, p0, q0, hargs, rfl, rfl, h0, r0⟩ := trodAll_cons hA
  obtain ⟨rfl, rfl, rfl⟩ := trodAll_nil r0
  obtain rfl : args = #[v0] := by cases args; simp_all
  obtain ⟨rfl, rfl⟩ := trodVars_none hV
  obtain ⟨p0, L0, c0, rfl, hL0⟩ := open_sts (hval 0 22 v0 rfl rfl) h0
  clear hA0 hval0
  refine (walk p0 L0 c0 W hL0).mono fun e W' ⟨he, hg⟩ => ?_
  subst he
  exact ⟨_, rfl, post_bel readable hW' rfl (fun _ _ _ => (trodAll_cons_mk (shut_bool Try.underlying4 _) trodAll_mk0)) rfl (fun _ => rfl)
    hg (ok_one (by kernel_rfl) rfl (okWide_bool_mk Try.underlying4 _))⟩

theorem over : Rows.lockEpochRow.holds Try.pinned (OpenSpec.ofChange Rows.lockEpochSpec) :=
  OpenClaim.holds_of_wide 5 Try.f5 rfl rfl rfl rfl rfl rfl rfl ⟨rfl, rfl, rfl, rfl, rfl⟩ rfl rfl rfl rfl rfl (by kernel_rfl) Try.func5 (by kernel_rfl)
    (of_decide_eq_true (by kernel_rfl)) (by unfold Func.isWrapper; first | (rw [if_pos (by decide +kernel)]; kernel_rfl) | (rw [if_neg (by decide +kernel)]; exact ⟨rfl, rfl⟩))
    (fun os started H enc _ => lifted os started H enc)

theorem proved : Rows.LockEpochSaid :=
  over
end Go.Proofs.Ytboahmoplgkmnaa.lockEpoch
namespace Go.Proofs.Ytboahmoplgkmnaa
theorem lockEpoch_holds : Rows.LockEpochSaid :=
  lockEpoch.proved
#print axioms lockEpoch_holds
end Go.Proofs.Ytboahmoplgkmnaa
