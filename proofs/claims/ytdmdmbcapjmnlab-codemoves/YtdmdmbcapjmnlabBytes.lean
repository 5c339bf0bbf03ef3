/- Towards the statements of package word (layer 1), of what of it this program has: eight bytes as one number, one number as eight bytes: contracts of number and bytesOf, for every argument. -/
import Derived.Test.YtdmdmbcapjmnlabSizes
import Derived.Handy
import Derived.PlainAid
import Derived.Laws.BitsAllLaws
namespace Go.Proofs.Ytdmdmbcapjmnlab
open Go.ChangeShapes Go.WideShapes Go.ChangeAt Go.RowKit
open Go.PlainAid (bt get_bt bt_nonneg bt_le bt_end)
set_option linter.unusedVariables false

structure Gr (w w' : World) : Prop where
  below : Below w.heap.size w w'
  grown : Grown w w'
theorem Gr.refl (w : World) : Gr w w := ⟨Below.refl _ _, Grown.refl _⟩
theorem Gr.trans {a b c : World} (h : Gr a b) (k : Gr b c) : Gr a c :=
  ⟨h.below.trans (k.below.mono h.below.size), ⟨World.keptBut_trans h.grown.1 k.grown.1, fun x => (k.grown.2.1 x).trans (h.grown.2.1 x), Nat.le_trans h.grown.2.2 k.grown.2.2⟩⟩

theorem or_mul (a b i m : Nat) (hm : m = 2 ^ i) (h : a < m) : a ||| (b * m) = b * m + a := by
  subst hm
  rw [Nat.or_comm, ← Nat.shiftLeft_eq, Nat.shiftLeft_add_eq_or_of_lt h]

theorem or_step (a b : Int) (i m : Nat) (hm : m = 2 ^ i) (h0 : 0 ≤ a) (h1 : a < m) (hb : 0 ≤ b) (hs : b * m + a < 18446744073709551616) : bits .or .u64 a (b * (m : Int)) = b * m + a := by
  obtain ⟨n, rfl⟩ := Int.eq_ofNat_of_zero_le h0
  obtain ⟨k, rfl⟩ := Int.eq_ofNat_of_zero_le hb
  have e : (k : Int) * (m : Int) = ((k * m : Nat) : Int) := by simp
  rw [e] at hs ⊢
  rw [Go.u64_or_nat n (k * m) (by omega) (by omega), or_mul n k i m hm (by omega)]
  omega

theorem or_zero (b : Int) (h0 : 0 ≤ b) (h1 : b ≤ 255) : bits .or .u64 0 b = b := by
  have := or_step 0 b 0 1 (by decide) (by omega) (by omega) h0 (by omega)
  simpa using this

theorem sum8 (b0 b1 b2 b3 b4 b5 b6 b7 : Int) (h0 : 0 ≤ b0 ∧ b0 ≤ 255) (h1 : 0 ≤ b1 ∧ b1 ≤ 255) (h2 : 0 ≤ b2 ∧ b2 ≤ 255) (h3 : 0 ≤ b3 ∧ b3 ≤ 255) (h4 : 0 ≤ b4 ∧ b4 ≤ 255) (h5 : 0 ≤ b5 ∧ b5 ≤ 255) (h6 : 0 ≤ b6 ∧ b6 ≤ 255) (h7 : 0 ≤ b7 ∧ b7 ≤ 255) :
    bits BinOp.or IntKind.u64 (bits BinOp.or IntKind.u64 (bits BinOp.or IntKind.u64 (bits BinOp.or IntKind.u64 (bits BinOp.or IntKind.u64 (bits BinOp.or IntKind.u64 (bits BinOp.or IntKind.u64 (bits BinOp.or IntKind.u64 0 b0) (b1 * 256)) (b2 * 65536)) (b3 * 16777216)) (b4 * 4294967296)) (b5 * 1099511627776)) (b6 * 281474976710656)) (b7 * 72057594037927936)
      = b0 + 256 * (b1 + 256 * (b2 + 256 * (b3 + 256 * (b4 + 256 * (b5 + 256 * (b6 + 256 * b7)))))) := by
  rw [or_zero b0 h0.1 h0.2]
  have e1 := or_step b0 b1 8 256 (by decide) (by omega) (by omega) h1.1 (by omega)
  have e2 := fun a h0 h1 hs => or_step a b2 16 65536 (by decide) h0 h1 h2.1 hs
  have e3 := fun a h0 h1 hs => or_step a b3 24 16777216 (by decide) h0 h1 h3.1 hs
  have e4 := fun a h0 h1 hs => or_step a b4 32 4294967296 (by decide) h0 h1 h4.1 hs
  have e5 := fun a h0 h1 hs => or_step a b5 40 1099511627776 (by decide) h0 h1 h5.1 hs
  have e6 := fun a h0 h1 hs => or_step a b6 48 281474976710656 (by decide) h0 h1 h6.1 hs
  have e7 := fun a h0 h1 hs => or_step a b7 56 72057594037927936 (by decide) h0 h1 h7.1 hs
  simp only [Int.cast_ofNat_Int] at e1 e2 e3 e4 e5 e6 e7
  rw [e1, e2 _ (by omega) (by omega) (by omega), e3 _ (by omega) (by omega) (by omega), e4 _ (by omega) (by omega) (by omega), e5 _ (by omega) (by omega) (by omega), e6 _ (by omega) (by omega) (by omega), e7 _ (by omega) (by omega) (by omega)]
  omega

theorem ret_int {k : IntKind} {a b : Int} (h : a = b) : Ending.returned (.int k a) = .returned (.int k b) := by rw [h]

set_option maxHeartbeats 1000000 in
theorem number_any (b0 b1 b2 b3 b4 b5 b6 b7 : Int) (h0 : 0 ≤ b0 ∧ b0 ≤ 255) (h1 : 0 ≤ b1 ∧ b1 ≤ 255) (h2 : 0 ≤ b2 ∧ b2 ≤ 255) (h3 : 0 ≤ b3 ∧ b3 ≤ 255) (h4 : 0 ≤ b4 ∧ b4 ≤ 255) (h5 : 0 ≤ b5 ∧ b5 ≤ 255) (h6 : 0 ≤ b6 ∧ b6 ≤ 255) (h7 : 0 ≤ b7 ∧ b7 ≤ 255) (w : World) :
    Calls Try.prog 89 #[.agg #[.int .u8 b0, .int .u8 b1, .int .u8 b2, .int .u8 b3, .int .u8 b4, .int .u8 b5, .int .u8 b6, .int .u8 b7]] w fun e w' => e = .returned (.int .u64 (b0 + 256 * (b1 + 256 * (b2 + 256 * (b3 + 256 * (b4 + 256 * (b5 + 256 * (b6 + 256 * b7)))))))) ∧ Gr w w' := by
  have hs : Hid _ := sum8 b0 b1 b2 b3 b4 b5 b6 b7 h0 h1 h2 h3 h4 h5 h6 h7
  go_enter Try.func89, Try.ntmps89
  go_wp2
  go_rounds 9
  go_ret
  exact ⟨ret_int hs.out, by go_grown, by go_grown⟩

set_option maxHeartbeats 1000000 in
theorem bytes_any (x : Int) (h0 : 0 ≤ x) (h1 : x ≤ 18446744073709551615) (w : World) : Calls Try.prog 66 #[.int .u64 x] w fun e w' => e = .returned (.agg #[.int .u8 (x % 256), .int .u8 (x / 256 % 256), .int .u8 (x / 65536 % 256), .int .u8 (x / 16777216 % 256), .int .u8 (x / 4294967296 % 256), .int .u8 (x / 1099511627776 % 256), .int .u8 (x / 281474976710656 % 256), .int .u8 (x / 72057594037927936)]) ∧ Gr w w' := by
  go_enter Try.func66, Try.ntmps66
  go_wp2
  go_rounds 9
  refine bodyPost_ret (v := .agg #[.int .u8 (x % 256), .int .u8 (x / 256 % 256), .int .u8 (x / 65536 % 256), .int .u8 (x / 16777216 % 256), .int .u8 (x / 4294967296 % 256), .int .u8 (x / 1099511627776 % 256), .int .u8 (x / 281474976710656 % 256), .int .u8 (x / 72057594037927936)]) (by simp [results, Try.results66, go_sem]) rfl ⟨rfl, ?_, ?_⟩
  · go_grown
  · go_grown

end Go.Proofs.Ytdmdmbcapjmnlab
