/- Towards the statements of package tree (layer 16): binary digits; handles by one number; what the laws ask of the calls. -/
import Derived.Test.YthgmfcklipkbiaaTW
namespace Go.Proofs.Ythgmfcklipkbiaa
open Go.ChangeShapes Go.WideShapes Go.ChangeAt Go.RowKit
set_option linter.unusedVariables false
set_option linter.unusedSimpArgs false
set_option maxRecDepth 20000
def digM (n : Nat) : Nat := if h : n = 0 then 0 else digM (n / 2) + 1
decreasing_by omega
theorem digM_zero : digM 0 = 0 := by rw [digM]; rfl
theorem digM_pos {n : Nat} (h : 0 < n) : digM n = digM (n / 2) + 1 := by rw [digM, dif_neg (by omega)]
theorem digM_lt (n : Nat) : n < 2 ^ digM n := by
  induction n using Nat.strongRecOn with
  | _ n ih =>
    by_cases h : n = 0
    · subst h; rw [digM_zero]; decide
    · rw [digM_pos (by omega), Nat.pow_succ]
      have := ih (n / 2) (by omega)
      omega
theorem digM_le (n : Nat) : digM n ≤ n := by
  induction n using Nat.strongRecOn with
  | _ n ih =>
    by_cases h : n = 0
    · subst h; rw [digM_zero]; exact Nat.le_refl 0
    · rw [digM_pos (by omega)]
      have := ih (n / 2) (by omega)
      omega
theorem dig_any (n : Nat) (hn : n ≤ 1000000) (w : World) : Calls Try.prog 20 #[.int .i64 n] w fun e w' => e = .returned (.int .i64 (digM n : Nat)) ∧ w' = w := by
  generalize hZ : digM n = Z
  replace hZ : Hid _ := hZ
  go_enter Try.func20, Try.ntmps20
  go_wp2
  go_loopg [0, 3] n (fun g v0 v3 wr => wr = w ∧ ∃ m d : Nat, v0 = .int .i64 m ∧ v3 = .int .i64 d ∧ d + digM m = Z ∧ m ≤ g ∧ d + m ≤ 1000001)
  case atStart => exact ⟨rfl, n, 0, rfl, rfl, by rw [← hZ.out]; simp, Nat.le_refl _, by omega⟩
  case round =>
    obtain ⟨rfl, m, d, rfl, rfl, hm, hg, hd⟩ := hrel
    replace hm : Hid _ := hm
    by_cases h0 : 0 < m
    · have q1 : decide ((0 : Int) < (m : Int)) = true := decide_eq_true (by omega)
      have q2 : decide ((m : Int) > 0) = true := decide_eq_true (by omega)
      have e1 : ((m : Int).tdiv 2) = ((m / 2 : Nat) : Int) := by
        rw [Int.tdiv_eq_ediv_of_nonneg (by omega)]; omega
      have e2 : IntKind.i64.wrap ((m / 2 : Nat) : Int) = ((m / 2 : Nat) : Int) := IntWalk.i64_in _ (by omega)
      have e3 : IntKind.i64.wrap ((d : Int) + 1) = ((d + 1 : Nat) : Int) := by rw [IntWalk.i64_in _ (by omega)]; simp
      go_wp2
      go_roundg (m / 2)
      case measure => omega
      case rel => exact ⟨rfl, m / 2, d + 1, rfl, rfl, by have := hm.out; rw [digM_pos h0] at this; omega, Nat.le_refl _, by omega⟩
    · have q1 : decide ((0 : Int) < (m : Int)) = false := decide_eq_false (by omega)
      have q2 : decide ((m : Int) > 0) = false := decide_eq_false (by omega)
      have hz : d = Z := by
        have := hm.out
        rw [show m = 0 by omega, digM_zero] at this
        omega
      subst hz
      go_wp2
      all_goals first | go_end0 | go_returns | skip
      all_goals exact ⟨rfl, rfl⟩
/-- How deep, in whatever world from there on. -/
theorem deep_at {w : World} {B b : Nat} {K : List HKey} (h : Tk w B b K) (n : Nat) (hn : K.length + 1 = n) :
    ∃ d : Nat, decide (((2 * digM n : Nat) : Int) < (d : Int)) = false ∧ ∀ w', Below w.heap.size w w' → Calls Try.prog 19 #[.pointer (some ⟨b, 0, none⟩)] w' fun e w2 => e = .returned (.int .i64 (d : Int)) ∧ w2 = w' := by
  obtain ⟨m, top, M, T, h1, rfl⟩ := h
  rw [Tr.keys_len] at hn
  subst hn
  have := low_le (Tr.low _ T (Nat.le_refl _) h1.avl) (digM_lt (T.size + 1))
  exact ⟨T.deep, decide_eq_false (by omega), fun w' hb => deep_any w' B b m top M T (h1.keep hb)⟩
theorem ins_yes {w : World} {B b : Nat} {K : List HKey} (h : Tk w B b K) (i : Nat) (hi : i ≤ K.length) (k : HKey) (hk : k ∉ K) (hl : K.length + 1 ≤ 2000) :
    Calls Try.prog 13 #[.pointer (some ⟨b, 0, none⟩), .int .i64 i, .agg #[.int .i64 k.1, .int .u64 k.2]] w fun e w' => e = .returned (.int .i64 0) ∧ Tk w' B b (K.take i ++ k :: K.drop i) ∧ Ft B w w' := by
  have := ins_tk w B b K h hl i k
  have hr : insR K i k = 0 := by
    unfold insR
    rw [if_neg (by omega), if_neg hk]
  unfold insK at this
  rw [hr, if_pos rfl, Int.toNat_natCast] at this
  exact this
theorem rem_yes {w : World} {B b : Nat} {K : List HKey} (h : Tk w B b K) (i : Nat) (k : HKey) (hk : K[i]? = some k) :
    Calls Try.prog 11 #[.pointer (some ⟨b, 0, none⟩), .agg #[.int .i64 k.1, .int .u64 k.2]] w fun e w' => e = .returned (.tuple #[.int .i64 i, .bool true]) ∧ Tk w' B b (K.take i ++ K.drop (i + 1)) ∧ Ft B w w' := by
  have := rem_tk w B b K h k
  have hm := List.mem_of_getElem? hk
  unfold idxR at this
  rw [if_pos hm, decide_eq_true hm, idx_atG h.nd hk, ← cut_mid h.nd hk] at this
  exact this
theorem at_yes {w : World} {B b : Nat} {K : List HKey} (h : Tk w B b K) (i : Nat) (k : HKey) (hk : K[i]? = some k) :
    Calls Try.prog 15 #[.pointer (some ⟨b, 0, none⟩), .int .i64 i] w fun e w' => e = .returned (.tuple #[.agg #[.int .i64 k.1, .int .u64 k.2], .bool true]) ∧ Below w.heap.size w w' := by
  have := at_tk w B b K h i
  have e : atM K i = some k := by unfold atM; rw [if_neg (by omega), Int.toNat_natCast, hk]
  rw [e] at this
  exact this
theorem at_none {w : World} {B b : Nat} {K : List HKey} (h : Tk w B b K) (i : Nat) (hk : K[i]? = none) :
    Calls Try.prog 15 #[.pointer (some ⟨b, 0, none⟩), .int .i64 i] w fun e w' => e = .returned (.tuple #[.agg #[.int .i64 0, .int .u64 0], .bool false]) ∧ Below w.heap.size w w' := by
  have := at_tk w B b K h i
  have e : atM K i = none := by unfold atM; rw [if_neg (by omega), Int.toNat_natCast, hk]
  rw [e] at this
  exact this
theorem ins_len {K : List HKey} (i : Nat) (k : HKey) (hi : i ≤ K.length) : (K.take i ++ k :: K.drop i).length = K.length + 1 := by simp; omega
theorem ins_at {K : List HKey} (i : Nat) (k : HKey) (hi : i ≤ K.length) : (K.take i ++ k :: K.drop i)[i]? = some k := by
  rw [List.getElem?_append_right (by simp; omega)]
  simp [Nat.min_eq_left hi]
theorem cut_len {K : List HKey} (i : Nat) (hi : i < K.length) : (K.take i ++ K.drop (i + 1)).length = K.length - 1 := by simp; omega
theorem cut_at {K : List HKey} (i : Nat) (hi : i < K.length) : (K.take i ++ K.drop (i + 1))[i]? = K[i + 1]? := by
  rw [List.getElem?_append_right (by simp; omega)]
  simp [Nat.min_eq_left (Nat.le_of_lt hi)]
theorem cut_ins {K : List HKey} (i : Nat) (k : HKey) (hi : i ≤ K.length) : (K.take i ++ k :: K.drop i).take i ++ (K.take i ++ k :: K.drop i).drop (i + 1) = K := by
  have e : (K.take i).length = i := by simp; omega
  have e2 : (K.take i).drop (i + 1) = [] := List.drop_of_length_le (by omega)
  rw [List.take_left' e, List.drop_append, e, e2]
  simp
theorem ins_cut {K : List HKey} (i : Nat) (k : HKey) (hk : K[i]? = some k) : (K.take i ++ K.drop (i + 1)).take i ++ k :: (K.take i ++ K.drop (i + 1)).drop i = K := by
  have hl := (List.getElem?_eq_some_iff.1 hk).1
  have e : (K.take i).length = i := by simp; omega
  rw [List.take_left' e, List.drop_left' e]
  have : K[i] = k := (List.getElem?_eq_some_iff.1 hk).2
  rw [← this, ← List.drop_eq_getElem_cons hl, List.take_append_drop]
end Go.Proofs.Ythgmfcklipkbiaa
