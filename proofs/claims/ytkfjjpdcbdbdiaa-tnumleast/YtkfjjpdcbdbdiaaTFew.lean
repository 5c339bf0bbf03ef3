/- Towards the statements of package tnum (layer 3): a mask with four of its bits at most. -/
import Derived.Test.YtkfjjpdcbdbdiaaTCalls
import Derived.Deep.LoopGhost
namespace Go.Proofs.Ytkfjjpdcbdbdiaa
open Go.ChangeShapes Go.WideShapes Go.ChangeAt Go.RowKit
set_option linter.unusedVariables false
set_option maxRecDepth 20000

/-- How many of the lowest k bits are set. -/
def cntB (m : BitVec 64) : Nat → Nat
  | 0 => 0
  | k + 1 => cntB m k + if m.getLsbD k then 1 else 0
theorem cnt_or {z : BitVec 64} {k : Nat} (hk : k < 64) : ∀ j, j ≤ k → cntB (z ||| 1#64 <<< k) j = cntB z j
  | 0, _ => rfl
  | j + 1, h => by
    rw [cntB, cntB, cnt_or hk j (by omega), BitVec.getLsbD_or, Tn.one_shl, decide_eq_false (show ¬ j = k by omega)]
    simp
theorem cnt_next {z : BitVec 64} {k : Nat} (hk : k < 64) : cntB (z ||| 1#64 <<< k) (k + 1) = cntB z k + 1 := by
  rw [cntB, cnt_or hk k (Nat.le_refl k), BitVec.getLsbD_or, Tn.one_shl, decide_eq_true hk, decide_eq_true (rfl : k = k)]
  simp
theorem cnt_same {z : BitVec 64} {k : Nat} (h : ∀ j, k ≤ j → z.getLsbD j = false) : cntB z (k + 1) = cntB z k := by
  rw [cntB, h k (Nat.le_refl k)]; rfl
theorem fbit_lit (x : BitVec 64) (k : Nat) : bits .and .u64 (iv (x >>> k)) 1 = if x.getLsbD k then 1 else 0 := by
  rw [iv_and1, bit_val]
  cases x.getLsbD k <;> rfl
set_option maxHeartbeats 4000000 in
theorem few_any (m : BitVec 64) (w : World) : Calls Try.prog 10 #[.int .u64 (iv m)] w fun e w' => (∃ z, e = .returned (.int .u64 (iv z)) ∧ cntB z 64 ≤ 4) ∧ w' = w := by
  go_enter Try.func10, Try.ntmps10
  go_wp2_with fail
  go_loopw [3, 4, 5] (fun o c i wr => ∃ (k : Nat) (z : BitVec 64), k ≤ 64 ∧ o = .int .u64 (iv z) ∧ c = .int .i64 (cntB z k : Nat) ∧ i = .int .i64 k ∧ cntB z k ≤ 4 ∧ (∀ j, k ≤ j → z.getLsbD j = false) ∧ wr = w) (fun _ _ i _ => 64 - (intOf i).toNat)
  case atStart => exact ⟨0, 0#64, by omega, rfl, rfl, rfl, by simp [cntB], fun j _ => by simp, rfl⟩
  case round =>
    obtain ⟨k, z, hk, rfl, rfl, rfl, hc, hz, rfl⟩ := hrel
    have HZ : Hid (∀ j, k ≤ j → z.getLsbD j = false) := hz
    clear hz
    by_cases hlt : k < 64
    · have r0 := iv_shr m k
      have r1 := iv_shl0 k
      have r2 := iv_or z (1#64 <<< k)
      have hb := fbit_lit m k
      cases hm : m.getLsbD k
      · have hb' : bits .and .u64 (iv (m >>> k)) 1 = 0 := by rw [hb, hm]; rfl
        clear hb
        go_wp2
        go_roundw
        case rel => exact ⟨k + 1, z, by omega, rfl, by rw [cnt_same HZ.out], by go_num, by rw [cnt_same HZ.out]; exact hc, fun j hj => HZ.out j (by omega), trivial⟩
        case measure => simp [intOf]; omega
      · have hb' : bits .and .u64 (iv (m >>> k)) 1 = 1 := by rw [hb, hm]; rfl
        clear hb
        by_cases h4 : cntB z k < 4
        · have h4' : decide (((cntB z k : Nat) : Int) < 4) = true := decide_eq_true (by omega)
          have HN : Hid (cntB (z ||| 1#64 <<< k) (k + 1) = cntB z k + 1) := cnt_next hlt
          go_wp2
          go_roundw
          case rel => exact ⟨k + 1, z ||| 1#64 <<< k, by omega, rfl, by rw [HN.out]; go_num, by go_num, by rw [HN.out]; omega, fun j hj => by rw [BitVec.getLsbD_or, HZ.out j (by omega), Tn.one_shl, decide_eq_false (show ¬ j = k by omega)]; simp, trivial⟩
          case measure => simp [intOf]; omega
        · have h4' : decide (((cntB z k : Nat) : Int) < 4) = false := decide_eq_false (by omega)
          go_wp2
          go_roundw
          case rel => exact ⟨k + 1, z, by omega, rfl, by rw [cnt_same HZ.out], by go_num, by rw [cnt_same HZ.out]; exact hc, fun j hj => HZ.out j (by omega), trivial⟩
          case measure => simp [intOf]; omega
    · obtain rfl : k = 64 := by omega
      go_wp2
      go_ret
      exact ⟨⟨z, rfl, hc⟩, rfl⟩
end Go.Proofs.Ytkfjjpdcbdbdiaa
