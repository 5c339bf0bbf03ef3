/- Towards the statements of package types (layer 10): Check. -/
import Derived.Test.YtmcjmdoeafhjpaaTH
namespace Go.Proofs.Ytmcjmdoeafhjpaa
open Go.ChangeShapes Go.WideShapes Go.ChangeAt Go.RowKit
set_option linter.unusedVariables false
set_option linter.unusedSimpArgs false
set_option maxRecDepth 20000
def badT (L : List Ty) : Nat → List Ty → Option (Int × Int × Int)
  | _, [] => none
  | i, t :: r => if (typeM L i t).2 ≠ 0 then some ((i : Int), (typeM L i t).1, (typeM L i t).2) else badT L (i + 1) r
def badG (L : List Ty) : Nat → List Fd → Option Nat
  | _, [] => none
  | k, x :: r => if holdM L x = true then badG L (k + 1) r else some k
def badH (L : List Ty) : Nat → List Ty → Option (Int × Int × Int)
  | _, [] => none
  | i, t :: r => match badG L 0 t.fs with
    | some k => some ((i : Int), (k : Int), 105)
    | none => badH L (i + 1) r
def chkM (L : List Ty) : Int × Int × Int := match badT L 0 L with
  | some r => r
  | none => match badH L 0 L with
    | some r => r
    | none => (0, 0, 0)
def chkV (r : Int × Int × Int) : Value := .tuple #[.int .i64 r.1, .int .i64 r.2.1, .int .i64 r.2.2]
set_option maxHeartbeats 4000000 in
theorem check_any (p : Option Addr) (c : Nat) (L : List Ty) (hc : L.length ≤ c ∧ c ≤ maxLen) (w : World) (hL : Tys w p L) (hfit : Fit L) :
    Calls Try.prog 16 #[.slice p L.length c] w fun e w' => e = .returned (chkV (chkM L)) ∧ Bl w w' := by
  have hlen := hL.len
  unfold maxLen at hlen
  generalize hans : chkM L = ans
  replace hans : Hid (chkM L = ans) := hans
  unfold chkV
  go_enter Try.func16, Try.ntmps16
  go_wp2
  go_loopw [14] (fun n wr => ∃ k : Nat, n = .int .i64 k ∧ k ≤ L.length ∧ badT L 0 L = badT L k (L.drop k) ∧ Bl w wr) (fun n _ => L.length - (intOf n).toNat)
  case atStart => exact ⟨0, rfl, by omega, by rw [List.drop_zero], Bl.refl _⟩
  case round =>
    obtain ⟨k, rfl, hk, hA, hb⟩ := hrel
    replace hA : Hid (badT L 0 L = badT L k (L.drop k)) := hA
    by_cases h : k < L.length
    · have d : decide ((k : Int) < L.length) = true := by simp; omega
      obtain ⟨t, hxk⟩ : ∃ t, L[k]? = some t := ⟨L[k], List.getElem?_eq_getElem _⟩
      have kf := type_any p c L hc k t hxk _ (hL.gr hb) hfit
      have hdr : Hid (L.drop k = t :: L.drop (k + 1)) := drop_get hxk
      have e9 : IntKind.i64.wrap ((k : Int) + 1) = (k : Int) + 1 := IntWalk.i64_in _ (by omega)
      clear hxk
      by_cases hz : (typeM L k t).2 ≠ 0
      · have e2 : ((typeM L k t).2 != 0) = true := by simpa using hz
        have hr : Hid (ans = ((k : Int), (typeM L k t).1, (typeM L k t).2)) := by
          show ans = _
          rw [← hans.out, chkM, hA.out, hdr.out, badT, if_pos hz]
        clear hz
        generalize typeM L k t = r at kf e2 hr
        go_wp2_with (go_at_call 45; refine kf.mono ?_; rintro e w5 ⟨rfl, hb5⟩)
        try rw [Exit.noGoto_ret]
        go_returns
        exact ⟨by rw [hr.out]; try rfl, hb.trans hb5⟩
      · have e2 : ((typeM L k t).2 != 0) = false := by simpa using hz
        have hA2 : Hid (badT L 0 L = badT L (k + 1) (L.drop (k + 1))) := by
          show _ = _
          rw [hA.out, hdr.out, badT, if_neg hz]
        clear hz
        generalize typeM L k t = r at kf e2
        go_wp2_with (go_at_call 45; refine kf.mono ?_; rintro e w5 ⟨rfl, hb5⟩)
        exact ⟨⟨k + 1, by simp, by omega, hA2.out, hb.trans hb5⟩, by simp [intOf]; omega⟩
    · have d : decide ((k : Int) < L.length) = false := by simp; omega
      have hA2 : Hid (badT L 0 L = none) := by
        show _ = _
        rw [hA.out, List.drop_eq_nil_of_le (by omega), badT]
      clear hA
      go_wp2
      go_loopw [31] (fun n wr => ∃ k : Nat, n = .int .i64 k ∧ k ≤ L.length ∧ badH L 0 L = badH L k (L.drop k) ∧ Bl w wr) (fun n _ => L.length - (intOf n).toNat)
      case atStart => exact ⟨0, rfl, by omega, by rw [List.drop_zero], hb⟩
      case round =>
        clear hb
        obtain ⟨i, rfl, hi, hA, hb⟩ := hrel
        replace hA : Hid (badH L 0 L = badH L i (L.drop i)) := hA
        by_cases h : i < L.length
        · have d : decide ((i : Int) < L.length) = true := by simp; omega
          obtain ⟨t, hxk⟩ : ∃ t, L[i]? = some t := ⟨L[i], List.getElem?_eq_getElem _⟩
          have hdr : Hid (L.drop i = t :: L.drop (i + 1)) := drop_get hxk
          have e9 : IntKind.i64.wrap ((i : Int) + 1) = (i : Int) + 1 := IntWalk.i64_in _ (by omega)
          have hL2 := hL.gr hb
          obtain ⟨b, off, rfl, hb1, ⟨c0, c1, c2⟩, hok, hil⟩ := hL2.get hxk
          have hfl := hok.f.len
          unfold maxLen at hfl
          clear hxk
          have hmem : t ∈ L := List.mem_of_mem_drop (by rw [hdr.out]; exact List.mem_cons_self)
          have hpp : t.fs = [] ∨ ∃ b5 off5, t.p = some ⟨b5, off5, none⟩ := by
            rcases hok.f.at' with h | ⟨b5, off5, h, _⟩
            · exact .inl h
            · exact .inr ⟨b5, off5, h⟩
          replace hmem : Hid (t ∈ L) := hmem
          obtain ⟨tn, ts, tp, tc, tfs⟩ := t
          dsimp only at *
          rcases hpp with rfl | ⟨b5, off5, rfl⟩
          · go_wp2
            go_loopw [39] (fun n wr => ∃ k : Nat, n = .int .i64 k ∧ k ≤ ([] : List Fd).length ∧ badG L 0 ([] : List Fd) = badG L k (([] : List Fd).drop k) ∧ Bl w wr) (fun n _ => ([] : List Fd).length - (intOf n).toNat)
            case atStart => exact ⟨0, rfl, by omega, by rw [List.drop_zero], hb.alloc _⟩
            case round =>
              have hL3 := hL.gr hb
              have hb00 := hb
              clear hb c0 c1 c2
              obtain ⟨m, rfl, hm, hG, hb⟩ := hrel
              replace hG : Hid (badG L 0 ([] : List Fd) = badG L m (([] : List Fd).drop m)) := hG
              by_cases hmt : m < ([] : List Fd).length
              · simp at hmt
              · obtain rfl : m = 0 := by simpa using hm
                have hH : Hid (badH L 0 L = badH L (i + 1) (L.drop (i + 1))) := by
                  show _ = _
                  rw [hA.out, hdr.out, badH, hG.out, List.drop_eq_nil_of_le (by omega), badG]
                go_wp2
                exact ⟨⟨i + 1, by simp, by omega, hH.out, hb⟩, by simp [intOf]; omega⟩
          · go_wp2
            go_loopw [39] (fun n wr => ∃ k : Nat, n = .int .i64 k ∧ k ≤ tfs.length ∧ badG L 0 tfs = badG L k (tfs.drop k) ∧ Bl w wr) (fun n _ => tfs.length - (intOf n).toNat)
            case atStart => exact ⟨0, rfl, by omega, by rw [List.drop_zero], hb.alloc _⟩
            case round =>
              have hL3 := hL.gr hb
              have hb00 := hb
              clear hb c0 c1 c2
              obtain ⟨m, rfl, hm, hG, hb⟩ := hrel
              replace hG : Hid (badG L 0 tfs = badG L m (tfs.drop m)) := hG
              by_cases hmt : m < tfs.length
              · have dm : decide ((m : Int) < tfs.length) = true := by simp; omega
                obtain ⟨x, hxm⟩ : ∃ x, tfs[m]? = some x := ⟨tfs[m], List.getElem?_eq_getElem _⟩
                have hdm : Hid (tfs.drop m = x :: tfs.drop (m + 1)) := drop_get hxm
                have e8 : IntKind.i64.wrap ((m : Int) + 1) = (m : Int) + 1 := IntWalk.i64_in _ (by omega)
                have hL4 := hL.gr hb
                have hok4 := hL4.ok _ hmem.out
                obtain ⟨b6, off6, hp5, hb5, ⟨z0, z1, z2, z3, z4⟩, hxok, _⟩ := hok4.f.get hxm
                cases hp5
                have kh := fun W (hW : Bl w W) => hold_any (some ⟨b, off, none⟩) c L x W (hL.gr hW) hxok
                clear hxm
                cases hz : holdM L x with
                | false =>
                  have hr : Hid (ans = ((i : Int), (m : Int), 105)) := by
                    show ans = _
                    rw [← hans.out, chkM, hA2.out, hA.out, hdr.out, badH, hG.out, hdm.out, badG, if_neg (by rw [hz]; decide)]
                  rw [hz] at kh
                  clear hz
                  go_wp2_with (go_at_call 46; refine (kh _ (hb.alloc _)).mono ?_; rintro e w5 ⟨rfl, hb6⟩)
                  try rw [Exit.noGoto_ret]
                  go_returns
                  exact ⟨by rw [hr.out]; try rfl, (hb.alloc _).trans hb6⟩
                | true =>
                  have hG2 : Hid (badG L 0 tfs = badG L (m + 1) (tfs.drop (m + 1))) := by
                    show _ = _
                    rw [hG.out, hdm.out, badG, if_pos hz]
                  rw [hz] at kh
                  clear hz
                  go_wp2_with (go_at_call 46; refine (kh _ (hb.alloc _)).mono ?_; rintro e w5 ⟨rfl, hb6⟩)
                  exact ⟨⟨m + 1, by simp, by omega, hG2.out, (hb.alloc _).trans hb6⟩, by simp [intOf]; omega⟩
              · have dm : decide ((m : Int) < tfs.length) = false := by simp; omega
                have hH : Hid (badH L 0 L = badH L (i + 1) (L.drop (i + 1))) := by
                  show _ = _
                  rw [hA.out, hdr.out, badH, hG.out, List.drop_eq_nil_of_le (by omega), badG]
                go_wp2
                exact ⟨⟨i + 1, by simp, by omega, hH.out, hb⟩, by simp [intOf]; omega⟩
        · have d : decide ((i : Int) < L.length) = false := by simp; omega
          have hr : Hid (ans = (0, 0, 0)) := by
            show ans = _
            rw [← hans.out, chkM, hA2.out, hA.out, List.drop_eq_nil_of_le (by omega), badH]
          go_wp2
          go_returns
          exact ⟨by rw [hr.out]; try rfl, hb⟩
end Go.Proofs.Ytmcjmdoeafhjpaa
