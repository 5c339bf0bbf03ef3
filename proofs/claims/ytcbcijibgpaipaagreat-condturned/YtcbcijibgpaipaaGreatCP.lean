/- Towards the statements of package cond (layer 6): how many bits a number has, as math/bits counts them: 1 is told of one bit alone. -/
import Derived.Test.YtcbcijibgpaipaaGreatMI
import Derived.Laws.Bits128
import Derived.Deep.DeepCutAuto
namespace Go.Proofs.YtcbcijibgpaipaaGreat
open Go.ChangeShapes Go.WideShapes Go.ChangeAt Go.RowKit
open Tn (iv)
set_option linter.unusedVariables false
set_option linter.unusedSimpArgs false
set_option maxRecDepth 20000

def num : List Nat → Nat
  | [] => 0
  | r :: t => r + 256 * num t
def rep (m : Nat) : Nat → Nat
  | 0 => 0
  | k + 1 => m + 256 * rep m k
theorem and_split (a b c d : Nat) (hc : c < 256) (hd : d < 256) : (c + 256 * a) &&& (d + 256 * b) = (c &&& d) + 256 * (a &&& b) := by
  have hcd : c &&& d < 2 ^ 8 := Nat.lt_of_le_of_lt Nat.and_le_left hc
  apply Nat.eq_of_testBit_eq
  intro i
  rw [Nat.testBit_and, Nat.add_comm c, Nat.add_comm d, Nat.add_comm (c &&& d), show 256 = 2 ^ 8 by rfl, Nat.testBit_two_pow_mul_add _ hc, Nat.testBit_two_pow_mul_add _ hd, Nat.testBit_two_pow_mul_add _ hcd]
  split
  · rw [Nat.testBit_and]
  · rw [Nat.testBit_and]
def s1 (r : Nat) : Nat := (r / 2 &&& 85) + (r &&& 85)
def s2 (r : Nat) : Nat := (r / 4 &&& 51) + (r &&& 51)
def s3 (r : Nat) : Nat := (r / 16 + r) &&& 15
theorem f1 : ∀ r : Fin 256, ∀ b : Fin 2, (r.val / 2 + 128 * b.val) &&& 85 = r.val / 2 &&& 85 := by decide +kernel
theorem f2 : ∀ r : Fin 256, ∀ b : Fin 4, (r.val / 4 + 64 * b.val) &&& 51 = r.val / 4 &&& 51 := by decide +kernel
theorem f3 : ∀ r : Fin 128, ∀ b : Fin 16, (r.val / 16 + r.val + 16 * b.val) &&& 15 = (r.val / 16 + r.val) &&& 15 := by decide +kernel
theorem f4 : ∀ r : Fin 256, s1 r.val < 256 ∧ s2 (s1 r.val) % 16 ≤ 4 ∧ s2 (s1 r.val) / 16 ≤ 4 ∧ s3 (s2 (s1 r.val)) ≤ 8 ∧ (s3 (s2 (s1 r.val)) = 0 → r.val = 0) ∧ (s3 (s2 (s1 r.val)) = 1 → r.val = 1 ∨ r.val = 2 ∨ r.val = 4 ∨ r.val = 8 ∨ r.val = 16 ∨ r.val = 32 ∨ r.val = 64 ∨ r.val = 128) := by decide +kernel
theorem step1 : ∀ l : List Nat, (∀ b ∈ l, b < 256) → (num l / 2 &&& rep 85 l.length) + (num l &&& rep 85 l.length) = num (l.map s1)
  | [], _ => rfl
  | r :: t, h => by
    have hr := h r (by simp)
    have ih := step1 t (fun b hb => h b (by simp [hb]))
    show ((r + 256 * num t) / 2 &&& (85 + 256 * rep 85 t.length)) + ((r + 256 * num t) &&& (85 + 256 * rep 85 t.length)) = s1 r + 256 * num (t.map s1)
    rw [show (r + 256 * num t) / 2 = (r / 2 + 128 * (num t % 2)) + 256 * (num t / 2) by omega, and_split _ _ _ _ (by omega) (by omega), and_split _ _ _ _ hr (by omega), ← ih]
    have := f1 ⟨r, hr⟩ ⟨num t % 2, by omega⟩
    simp only at this
    rw [this]
    unfold s1
    omega
theorem step2 : ∀ l : List Nat, (∀ b ∈ l, b < 256) → (num l / 4 &&& rep 51 l.length) + (num l &&& rep 51 l.length) = num (l.map s2)
  | [], _ => rfl
  | r :: t, h => by
    have hr := h r (by simp)
    have ih := step2 t (fun b hb => h b (by simp [hb]))
    show ((r + 256 * num t) / 4 &&& (51 + 256 * rep 51 t.length)) + ((r + 256 * num t) &&& (51 + 256 * rep 51 t.length)) = s2 r + 256 * num (t.map s2)
    rw [show (r + 256 * num t) / 4 = (r / 4 + 64 * (num t % 4)) + 256 * (num t / 4) by omega, and_split _ _ _ _ (by omega) (by omega), and_split _ _ _ _ hr (by omega), ← ih]
    have := f2 ⟨r, hr⟩ ⟨num t % 4, by omega⟩
    simp only at this
    rw [this]
    unfold s2
    omega
theorem num_low : ∀ l : List Nat, (∀ b ∈ l, b % 16 ≤ 4 ∧ b / 16 ≤ 4) → num l % 16 ≤ 4
  | [], _ => by simp [num]
  | r :: t, h => by
    have := (h r (by simp)).1
    show (r + 256 * num t) % 16 ≤ 4
    omega
theorem step3 : ∀ l : List Nat, (∀ b ∈ l, b % 16 ≤ 4 ∧ b / 16 ≤ 4) → (num l / 16 + num l) &&& rep 15 l.length = num (l.map s3)
  | [], _ => rfl
  | r :: t, h => by
    have hr := h r (by simp)
    have ih := step3 t (fun b hb => h b (by simp [hb]))
    have hq := num_low t (fun b hb => h b (by simp [hb]))
    show ((r + 256 * num t) / 16 + (r + 256 * num t)) &&& (15 + 256 * rep 15 t.length) = s3 r + 256 * num (t.map s3)
    rw [show (r + 256 * num t) / 16 + (r + 256 * num t) = (r / 16 + r + 16 * (num t % 16)) + 256 * (num t / 16 + num t) by omega, and_split _ _ _ _ (by omega) (by omega), ih]
    have := f3 ⟨r, by omega⟩ ⟨num t % 16, by omega⟩
    simp only at this
    rw [this]
    rfl
def c1 (x : BitVec 64) : BitVec 64 := (x >>> 1 &&& 6148914691236517205#64) + (x &&& 6148914691236517205#64)
def c2 (x : BitVec 64) : BitVec 64 := (x >>> 2 &&& 3689348814741910323#64) + (x &&& 3689348814741910323#64)
def c3 (x : BitVec 64) : BitVec 64 := (x >>> 4 + x) &&& 1085102592571150095#64
def c4 (x : BitVec 64) : BitVec 64 := x + x >>> 8
def c5 (x : BitVec 64) : BitVec 64 := x + x >>> 16
def c6 (x : BitVec 64) : BitVec 64 := x + x >>> 32
def cntB (x : BitVec 64) : BitVec 64 := c6 (c5 (c4 (c3 (c2 (c1 x)))))
def cnt (x : BitVec 64) : Int := iv (cntB x) % 128
theorem num_le (m : Nat) : ∀ l : List Nat, (∀ b ∈ l, b ≤ m) → num l ≤ m * rep 1 l.length
  | [], _ => Nat.zero_le _
  | r :: t, h => by
    have hr := h r (by simp)
    have ih := num_le m t (fun b hb => h b (by simp [hb]))
    show r + 256 * num t ≤ m * (1 + 256 * rep 1 t.length)
    rw [Nat.mul_add, Nat.mul_one, show m * (256 * rep 1 t.length) = 256 * (m * rep 1 t.length) by rw [← Nat.mul_assoc, Nat.mul_comm m, Nat.mul_assoc]]
    omega
theorem num_lt (l : List Nat) (h : ∀ b ∈ l, b < 256) : num l < 256 ^ l.length := by
  induction l with
  | nil => decide
  | cons r t ih =>
    have hr := h r (by simp)
    have := ih (fun b hb => h b (by simp [hb]))
    rw [List.length_cons, Nat.pow_succ]
    show r + 256 * num t < _
    omega
section
variable {x : BitVec 64} {l : List Nat}
theorem c1_num (hl : l.length = 8) (h : ∀ b ∈ l, b < 256) (hx : x.toNat = num l) : (c1 x).toNat = num (l.map s1) := by
  have e := step1 l h
  rw [hl] at e
  have hb : num (l.map s1) < 256 ^ 8 := by
    have := num_lt (l.map s1) (by
      intro b hb
      obtain ⟨r, hr, rfl⟩ := List.mem_map.1 hb
      exact (f4 ⟨r, h r hr⟩).1)
    rwa [List.length_map, hl] at this
  unfold c1
  rw [BitVec.toNat_add, BitVec.toNat_and, BitVec.toNat_and, BitVec.toNat_ushiftRight, Nat.shiftRight_eq_div_pow, hx]
  show ((num l / 2 &&& rep 85 8) + (num l &&& rep 85 8)) % 2 ^ 64 = _
  rw [e]
  exact Nat.mod_eq_of_lt hb
theorem s2_lt (r : Nat) (h : r < 256) : s2 (s1 r) < 256 := by
  have := (f4 ⟨r, h⟩).2
  simp only at this
  omega
theorem c2_num (hl : l.length = 8) (h : ∀ b ∈ l, b < 256) (hx : x.toNat = num (l.map s1)) : (c2 x).toNat = num ((l.map s1).map s2) := by
  have h1 : ∀ b ∈ l.map s1, b < 256 := by
    intro b hb
    obtain ⟨r, hr, rfl⟩ := List.mem_map.1 hb
    exact (f4 ⟨r, h r hr⟩).1
  have e := step2 (l.map s1) h1
  rw [List.length_map, hl] at e
  have hb : num ((l.map s1).map s2) < 256 ^ 8 := by
    have := num_lt ((l.map s1).map s2) (by
      intro b hb
      obtain ⟨r, hr, rfl⟩ := List.mem_map.1 hb
      obtain ⟨q, hq, rfl⟩ := List.mem_map.1 hr
      exact s2_lt q (h q hq))
    rwa [List.length_map, List.length_map, hl] at this
  unfold c2
  rw [BitVec.toNat_add, BitVec.toNat_and, BitVec.toNat_and, BitVec.toNat_ushiftRight, Nat.shiftRight_eq_div_pow, hx]
  show ((num (l.map s1) / 4 &&& rep 51 8) + (num (l.map s1) &&& rep 51 8)) % 2 ^ 64 = _
  rw [e]
  exact Nat.mod_eq_of_lt hb
theorem c3_num (hl : l.length = 8) (h : ∀ b ∈ l, b < 256) (hx : x.toNat = num ((l.map s1).map s2)) : (c3 x).toNat = num (((l.map s1).map s2).map s3) := by
  have h2 : ∀ b ∈ (l.map s1).map s2, b % 16 ≤ 4 ∧ b / 16 ≤ 4 := by
    intro b hb
    obtain ⟨r, hr, rfl⟩ := List.mem_map.1 hb
    obtain ⟨q, hq, rfl⟩ := List.mem_map.1 hr
    exact ⟨(f4 ⟨q, h q hq⟩).2.1, (f4 ⟨q, h q hq⟩).2.2.1⟩
  have e := step3 ((l.map s1).map s2) h2
  rw [List.length_map, List.length_map, hl] at e
  obtain ⟨b7, hb7⟩ : ∃ b, num ((l.map s1).map s2) = b := ⟨_, rfl⟩
  have hlt : num ((l.map s1).map s2) / 16 + num ((l.map s1).map s2) < 2 ^ 64 := by
    have h8 := num_le 68 ((l.map s1).map s2) (fun b hb => by
      have := h2 b hb
      omega)
    rw [List.length_map, List.length_map, hl, show rep 1 8 = 72340172838076673 from rfl] at h8
    omega
  unfold c3
  rw [BitVec.toNat_and, BitVec.toNat_add, BitVec.toNat_ushiftRight, Nat.shiftRight_eq_div_pow, hx]
  show ((num ((l.map s1).map s2) / 16 + num ((l.map s1).map s2)) % 2 ^ 64 &&& rep 15 8) = _
  rw [Nat.mod_eq_of_lt hlt]
  exact e
end
theorem shr_add (x : BitVec 64) (k a m q y : Nat) (hm : 2 ^ k = m) (hx : x.toNat = y) (e : y = a + m * q) (ha : a < m) (hy : y + q < 18446744073709551616) : (x + x >>> k).toNat = y + q := by
  rw [BitVec.toNat_add, BitVec.toNat_ushiftRight, Nat.shiftRight_eq_div_pow, hm, hx]
  have : y / m = q := by
    rw [e, Nat.add_mul_div_left _ _ (by omega), Nat.div_eq_of_lt ha, Nat.zero_add]
  rw [this]
  exact Nat.mod_eq_of_lt hy
set_option maxHeartbeats 4000000 in
theorem fold8 (x : BitVec 64) (p0 p1 p2 p3 p4 p5 p6 p7 : Nat) (h0 : p0 ≤ 8) (h1 : p1 ≤ 8) (h2 : p2 ≤ 8) (h3 : p3 ≤ 8) (h4 : p4 ≤ 8) (h5 : p5 ≤ 8) (h6 : p6 ≤ 8) (h7 : p7 ≤ 8)
    (hx : x.toNat = num [p0, p1, p2, p3, p4, p5, p6, p7]) : (c6 (c5 (c4 x))).toNat % 128 = p0 + p1 + p2 + p3 + p4 + p5 + p6 + p7 := by
  have b1 : num [p0, p1, p2, p3, p4, p5, p6, p7] ≤ 8 * rep 1 8 := num_le 8 _ (by
    intro b hb
    simp at hb
    rcases hb with rfl | rfl | rfl | rfl | rfl | rfl | rfl | rfl <;> assumption)
  have r8 : rep 1 8 = 72340172838076673 := rfl
  have e4 : (c4 x).toNat = num [p0, p1, p2, p3, p4, p5, p6, p7] + num [p1, p2, p3, p4, p5, p6, p7] := by
    refine shr_add x 8 p0 256 (num [p1, p2, p3, p4, p5, p6, p7]) _ rfl hx rfl (by omega) ?_
    have : num [p0, p1, p2, p3, p4, p5, p6, p7] = p0 + 256 * num [p1, p2, p3, p4, p5, p6, p7] := rfl
    omega
  have u1 : num [p0, p1, p2, p3, p4, p5, p6, p7] + num [p1, p2, p3, p4, p5, p6, p7] = ((p0 + p1) + 256 * (p1 + p2)) + 65536 * num [p2 + p3, p3 + p4, p4 + p5, p5 + p6, p6 + p7, p7] := by
    simp only [num]
    omega
  have d1 : num [p0, p1, p2, p3, p4, p5, p6, p7] + num [p1, p2, p3, p4, p5, p6, p7] ≤ 9 * rep 1 8 := by
    have : num [p0, p1, p2, p3, p4, p5, p6, p7] = p0 + 256 * num [p1, p2, p3, p4, p5, p6, p7] := rfl
    omega
  have e5 : (c5 (c4 x)).toNat = ((p0 + p1) + 256 * (p1 + p2)) + 65536 * num [p2 + p3, p3 + p4, p4 + p5, p5 + p6, p6 + p7, p7] + num [p2 + p3, p3 + p4, p4 + p5, p5 + p6, p6 + p7, p7] := by
    refine shr_add (c4 x) 16 ((p0 + p1) + 256 * (p1 + p2)) 65536 _ _ rfl (e4.trans u1) rfl (by omega) ?_
    omega
  have u2 : ((p0 + p1) + 256 * (p1 + p2)) + 65536 * num [p2 + p3, p3 + p4, p4 + p5, p5 + p6, p6 + p7, p7] + num [p2 + p3, p3 + p4, p4 + p5, p5 + p6, p6 + p7, p7] = ((p0 + p1 + p2 + p3) + 256 * ((p1 + p2 + p3 + p4) + 256 * (p2 + p3 + p4 + p5) + 65536 * (p3 + p4 + p5 + p6))) + 4294967296 * num [p4 + p5 + p6 + p7, p5 + p6 + p7, p6 + p7, p7] := by
    simp only [num]
    omega
  have d2 : ((p0 + p1) + 256 * (p1 + p2)) + 65536 * num [p2 + p3, p3 + p4, p4 + p5, p5 + p6, p6 + p7, p7] + num [p2 + p3, p3 + p4, p4 + p5, p5 + p6, p6 + p7, p7] ≤ 10 * rep 1 8 := by omega
  have e6 : (c6 (c5 (c4 x))).toNat = ((p0 + p1 + p2 + p3) + 256 * ((p1 + p2 + p3 + p4) + 256 * (p2 + p3 + p4 + p5) + 65536 * (p3 + p4 + p5 + p6))) + 4294967296 * num [p4 + p5 + p6 + p7, p5 + p6 + p7, p6 + p7, p7] + num [p4 + p5 + p6 + p7, p5 + p6 + p7, p6 + p7, p7] := by
    refine shr_add (c5 (c4 x)) 32 ((p0 + p1 + p2 + p3) + 256 * ((p1 + p2 + p3 + p4) + 256 * (p2 + p3 + p4 + p5) + 65536 * (p3 + p4 + p5 + p6))) 4294967296 _ _ rfl (e5.trans u2) rfl (by omega) ?_
    omega
  rw [e6, show num [p4 + p5 + p6 + p7, p5 + p6 + p7, p6 + p7, p7] = (p4 + p5 + p6 + p7) + 256 * num [p5 + p6 + p7, p6 + p7, p7] from rfl]
  generalize num [p5 + p6 + p7, p6 + p7, p7] = z
  omega
theorem sum_one (t0 t1 t2 t3 t4 t5 t6 t7 : Nat) (h : 1 = t0 + t1 + t2 + t3 + t4 + t5 + t6 + t7) : (t0 = 1 ∧ t1 = 0 ∧ t2 = 0 ∧ t3 = 0 ∧ t4 = 0 ∧ t5 = 0 ∧ t6 = 0 ∧ t7 = 0) ∨ (t0 = 0 ∧ t1 = 1 ∧ t2 = 0 ∧ t3 = 0 ∧ t4 = 0 ∧ t5 = 0 ∧ t6 = 0 ∧ t7 = 0) ∨ (t0 = 0 ∧ t1 = 0 ∧ t2 = 1 ∧ t3 = 0 ∧ t4 = 0 ∧ t5 = 0 ∧ t6 = 0 ∧ t7 = 0) ∨ (t0 = 0 ∧ t1 = 0 ∧ t2 = 0 ∧ t3 = 1 ∧ t4 = 0 ∧ t5 = 0 ∧ t6 = 0 ∧ t7 = 0) ∨ (t0 = 0 ∧ t1 = 0 ∧ t2 = 0 ∧ t3 = 0 ∧ t4 = 1 ∧ t5 = 0 ∧ t6 = 0 ∧ t7 = 0) ∨ (t0 = 0 ∧ t1 = 0 ∧ t2 = 0 ∧ t3 = 0 ∧ t4 = 0 ∧ t5 = 1 ∧ t6 = 0 ∧ t7 = 0) ∨ (t0 = 0 ∧ t1 = 0 ∧ t2 = 0 ∧ t3 = 0 ∧ t4 = 0 ∧ t5 = 0 ∧ t6 = 1 ∧ t7 = 0) ∨ (t0 = 0 ∧ t1 = 0 ∧ t2 = 0 ∧ t3 = 0 ∧ t4 = 0 ∧ t5 = 0 ∧ t6 = 0 ∧ t7 = 1) := by omega
def pow8 (b : Nat) : Prop := b = 1 ∨ b = 2 ∨ b = 4 ∨ b = 8 ∨ b = 16 ∨ b = 32 ∨ b = 64 ∨ b = 128
theorem pow_of (n j b : Nat) (hj : j < 8) (hb : pow8 b) (e : n = b * 256 ^ j) : ∃ k, k < 64 ∧ n = 2 ^ k := by
  have : (256 : Nat) ^ j = 2 ^ (8 * j) := by rw [Nat.pow_mul]
  rw [this] at e
  rcases hb with rfl | rfl | rfl | rfl | rfl | rfl | rfl | rfl
  · exact ⟨8 * j, by omega, by omega⟩
  · exact ⟨8 * j + 1, by omega, by rw [e, Nat.pow_add]; omega⟩
  · exact ⟨8 * j + 2, by omega, by rw [e, Nat.pow_add]; omega⟩
  · exact ⟨8 * j + 3, by omega, by rw [e, Nat.pow_add]; omega⟩
  · exact ⟨8 * j + 4, by omega, by rw [e, Nat.pow_add]; omega⟩
  · exact ⟨8 * j + 5, by omega, by rw [e, Nat.pow_add]; omega⟩
  · exact ⟨8 * j + 6, by omega, by rw [e, Nat.pow_add]; omega⟩
  · exact ⟨8 * j + 7, by omega, by rw [e, Nat.pow_add]; omega⟩
set_option maxHeartbeats 4000000 in
theorem cnt_one (x : BitVec 64) (h : cnt x = 1) : ∃ k, k < 64 ∧ ∀ i, (hi : i < 64) → x[i] = decide (i = k) := by
  have hx := x.isLt
  obtain ⟨n, hn⟩ : ∃ n, x.toNat = n := ⟨_, rfl⟩
  rw [hn] at hx
  obtain ⟨b0, b1, b2, b3, b4, b5, b6, b7, g0, g1, g2, g3, g4, g5, g6, g7, hnum⟩ : ∃ b0 b1 b2 b3 b4 b5 b6 b7, b0 < 256 ∧ b1 < 256 ∧ b2 < 256 ∧ b3 < 256 ∧ b4 < 256 ∧ b5 < 256 ∧ b6 < 256 ∧ b7 < 256 ∧ n = num [b0, b1, b2, b3, b4, b5, b6, b7] :=
    ⟨n % 256, n / 256 % 256, n / 65536 % 256, n / 16777216 % 256, n / 4294967296 % 256, n / 1099511627776 % 256, n / 281474976710656 % 256, n / 72057594037927936, by omega, by omega, by omega, by omega, by omega, by omega, by omega, by omega, by simp only [num]; omega⟩
  have hl : ∀ b ∈ [b0, b1, b2, b3, b4, b5, b6, b7], b < 256 := by
    intro b hb
    simp at hb
    rcases hb with rfl | rfl | rfl | rfl | rfl | rfl | rfl | rfl <;> assumption
  have q1 := c1_num rfl hl (hn.trans hnum)
  have q2 := c2_num rfl hl q1
  have q3 := c3_num rfl hl q2
  have F0 := (f4 ⟨b0, g0⟩).2.2.2; have F1 := (f4 ⟨b1, g1⟩).2.2.2; have F2 := (f4 ⟨b2, g2⟩).2.2.2; have F3 := (f4 ⟨b3, g3⟩).2.2.2
  have F4 := (f4 ⟨b4, g4⟩).2.2.2; have F5 := (f4 ⟨b5, g5⟩).2.2.2; have F6 := (f4 ⟨b6, g6⟩).2.2.2; have F7 := (f4 ⟨b7, g7⟩).2.2.2
  simp only at F0 F1 F2 F3 F4 F5 F6 F7
  have q4 := fold8 _ _ _ _ _ _ _ _ _ F0.1 F1.1 F2.1 F3.1 F4.1 F5.1 F6.1 F7.1 q3
  have hc : (c6 (c5 (c4 (c3 (c2 (c1 x)))))).toNat % 128 = 1 := by
    have h' : iv (cntB x) % 128 = 1 := h
    unfold Tn.iv cntB at h'
    omega
  rw [hc] at q4
  simp only [num] at hnum
  have key : ∃ k, k < 64 ∧ n = 2 ^ k := by
    obtain ⟨-, Z0, O0⟩ := F0; obtain ⟨-, Z1, O1⟩ := F1; obtain ⟨-, Z2, O2⟩ := F2; obtain ⟨-, Z3, O3⟩ := F3
    obtain ⟨-, Z4, O4⟩ := F4; obtain ⟨-, Z5, O5⟩ := F5; obtain ⟨-, Z6, O6⟩ := F6; obtain ⟨-, Z7, O7⟩ := F7
    rcases sum_one _ _ _ _ _ _ _ _ q4 with ⟨e0, e1, e2, e3, e4, e5, e6, e7⟩ | ⟨e0, e1, e2, e3, e4, e5, e6, e7⟩ | ⟨e0, e1, e2, e3, e4, e5, e6, e7⟩ | ⟨e0, e1, e2, e3, e4, e5, e6, e7⟩ | ⟨e0, e1, e2, e3, e4, e5, e6, e7⟩ | ⟨e0, e1, e2, e3, e4, e5, e6, e7⟩ | ⟨e0, e1, e2, e3, e4, e5, e6, e7⟩ | ⟨e0, e1, e2, e3, e4, e5, e6, e7⟩
    · have hp : pow8 b0 := O0 e0
      rw [Z1 e1, Z2 e2, Z3 e3, Z4 e4, Z5 e5, Z6 e6, Z7 e7] at hnum
      refine pow_of n 0 b0 (by decide) hp (hnum.trans ?_)
      simp only [Nat.mul_zero, Nat.zero_add, Nat.add_zero]
      omega
    · have hp : pow8 b1 := O1 e1
      rw [Z0 e0, Z2 e2, Z3 e3, Z4 e4, Z5 e5, Z6 e6, Z7 e7] at hnum
      refine pow_of n 1 b1 (by decide) hp (hnum.trans ?_)
      simp only [Nat.mul_zero, Nat.zero_add, Nat.add_zero]
      omega
    · have hp : pow8 b2 := O2 e2
      rw [Z0 e0, Z1 e1, Z3 e3, Z4 e4, Z5 e5, Z6 e6, Z7 e7] at hnum
      refine pow_of n 2 b2 (by decide) hp (hnum.trans ?_)
      simp only [Nat.mul_zero, Nat.zero_add, Nat.add_zero]
      omega
    · have hp : pow8 b3 := O3 e3
      rw [Z0 e0, Z1 e1, Z2 e2, Z4 e4, Z5 e5, Z6 e6, Z7 e7] at hnum
      refine pow_of n 3 b3 (by decide) hp (hnum.trans ?_)
      simp only [Nat.mul_zero, Nat.zero_add, Nat.add_zero]
      omega
    · have hp : pow8 b4 := O4 e4
      rw [Z0 e0, Z1 e1, Z2 e2, Z3 e3, Z5 e5, Z6 e6, Z7 e7] at hnum
      refine pow_of n 4 b4 (by decide) hp (hnum.trans ?_)
      simp only [Nat.mul_zero, Nat.zero_add, Nat.add_zero]
      omega
    · have hp : pow8 b5 := O5 e5
      rw [Z0 e0, Z1 e1, Z2 e2, Z3 e3, Z4 e4, Z6 e6, Z7 e7] at hnum
      refine pow_of n 5 b5 (by decide) hp (hnum.trans ?_)
      simp only [Nat.mul_zero, Nat.zero_add, Nat.add_zero]
      omega
    · have hp : pow8 b6 := O6 e6
      rw [Z0 e0, Z1 e1, Z2 e2, Z3 e3, Z4 e4, Z5 e5, Z7 e7] at hnum
      refine pow_of n 6 b6 (by decide) hp (hnum.trans ?_)
      simp only [Nat.mul_zero, Nat.zero_add, Nat.add_zero]
      omega
    · have hp : pow8 b7 := O7 e7
      rw [Z0 e0, Z1 e1, Z2 e2, Z3 e3, Z4 e4, Z5 e5, Z6 e6] at hnum
      refine pow_of n 7 b7 (by decide) hp (hnum.trans ?_)
      simp only [Nat.mul_zero, Nat.zero_add, Nat.add_zero]
      omega
  obtain ⟨k, hk, hkn⟩ := key
  refine ⟨k, hk, fun i hi => ?_⟩
  show x.toNat.testBit i = _
  rw [hn, hkn, Nat.testBit_two_pow]
  simp only [decide_eq_decide]
  omega
end Go.Proofs.YtcbcijibgpaipaaGreat
