/- Towards the statements of package name (layer 9): a range over a text in whatever world; Runes. -/
import Derived.Test.YtmcjmdoeafhjpaaNP
namespace Go.Proofs.Ytmcjmdoeafhjpaa
open Go.ChangeShapes Go.WideShapes Go.ChangeAt Go.RowKit
set_option linter.unusedVariables false
set_option linter.unusedSimpArgs false
set_option maxRecDepth 20000
/-- The world in which the iterator at k has come to p. -/
def itS (W : World) (k : Nat) (s : ByteArray) (p : Nat) : World := { W with heap := W.heap.setIfInBounds k (.stringIter s p) }
theorem ch_lt {w : World} {k : Nat} {o : Obj} (h : w.heap[k]? = some o) : k < w.heap.size := (Array.getElem?_eq_some_iff.1 h).1
theorem itS_heap {W : World} {k : Nat} {o : Obj} (h : W.heap[k]? = some o) (s : ByteArray) (p : Nat) : (itS W k s p).heap[k]? = some (.stringIter s p) := by
  show (W.heap.setIfInBounds k _)[k]? = _
  rw [Array.getElem?_setIfInBounds, if_pos rfl, if_pos (ch_lt h)]
theorem itS_below {w W : World} {k : Nat} (h : Bl w W) (hk : w.heap.size ≤ k) (s : ByteArray) (p : Nat) : Bl w (itS W k s p) := by
  refine Below.trans h ⟨rfl, rfl, rfl, ?_, fun j hj => ?_⟩
  · show _ ≤ (W.heap.setIfInBounds k _).size
    simp
  · show (W.heap.setIfInBounds k _)[j]? = _
    rw [Array.getElem?_setIfInBounds, if_neg (by omega)]
theorem itS_other {W : World} {k j : Nat} (h : j ≠ k) (s : ByteArray) (p : Nat) : (itS W k s p).heap[j]? = W.heap[j]? := by
  show (W.heap.setIfInBounds k _)[j]? = _
  rw [Array.getElem?_setIfInBounds, if_neg (by omega)]
theorem itS_size (W : World) (k : Nat) (s : ByteArray) (p : Nat) : (itS W k s p).heap.size = W.heap.size := by
  show (W.heap.setIfInBounds k _).size = _
  simp
theorem next_on {P : Program} {W : World} {k : Nat} {s : ByteArray} {pos : Nat} (hk : W.heap[k]? = some (.stringIter s pos)) (h : pos < s.size) (ty : TypeId) :
    (Instr.next (.pointer (some ⟨k, 0, none⟩)) true ty).run P W = .ok (.tuple #[.bool true, .int .i64 pos, .int .i32 (dec ((bt s).drop pos)).1]) (itS W k s (pos + (dec ((bt s).drop pos)).2)) := by
  simp only [Instr.next, getObj, setObj, Sem.run_bind, Sem.run, hk, Result.andThen, h, if_true, decode_eq s pos h]
  simp [goInt, itS]
theorem next_over {P : Program} {W : World} {k : Nat} {s : ByteArray} {pos : Nat} (hk : W.heap[k]? = some (.stringIter s pos)) (h : ¬ pos < s.size) (ty : TypeId) :
    (Instr.next (.pointer (some ⟨k, 0, none⟩)) true ty).run P W = .ok (.tuple #[.bool false]) W := by
  simp [Instr.next, getObj, Sem.run, hk, h]
/-- How far an iterator has come. -/
def itP (W : World) (k : Nat) : Nat := match W.heap[k]? with | some (.stringIter _ p) => p | _ => 0
theorem itP_eq {W : World} {k : Nat} {s : ByteArray} {p : Nat} (h : W.heap[k]? = some (.stringIter s p)) : itP W k = p := by rw [itP, h]
theorem it_keep {w W W' : World} {k : Nat} {o : Obj} (h : W.heap[k]? = some o) (hb : Bl W W') : W'.heap[k]? = some o := by rw [hb.block k (ch_lt h), h]
/-- The rest's runes. -/
def runA (l : List Nat) (m : Nat) : Int := match ch l with | none => -1 | some C => (m + C.length : Nat)
theorem runA_ok {l : List Nat} (hb : ∀ x ∈ l, x < 256) (hl : l ≠ []) (h : ok l = true) (m : Nat) : runA l m = runA (l.drop (dec l).2) (m + 1) := by
  rw [runA, runA, ch_ok hb hl h]
  cases ch (l.drop (dec l).2) with
  | none => rfl
  | some C => simp; omega
theorem runA_bad {l : List Nat} (hl : l ≠ []) (h : ok l = false) (m : Nat) : runA l m = -1 := by rw [runA, ch_bad hl h]
theorem runA_nil (m : Nat) : runA [] m = m := by simp [runA, ch_nil]
theorem runA_zero (l : List Nat) : runA l 0 = runM l := by unfold runA runM; cases ch l <;> simp
theorem bt_drop_lt (s : ByteArray) (p : Nat) : ∀ x ∈ (bt s).drop p, x < 256 := fun x hx => bt_lt s x (List.mem_of_mem_drop hx)
theorem bt_drop_ne {s : ByteArray} {p : Nat} (h : p < s.size) : (bt s).drop p ≠ [] := by
  intro e
  have : ((bt s).drop p).length = 0 := by rw [e]; rfl
  rw [List.length_drop, bt_len] at this
  omega
theorem dec_width (s : ByteArray) {p : Nat} (h : p < s.size) : 1 ≤ (dec ((bt s).drop p)).2 ∧ p + (dec ((bt s).drop p)).2 ≤ s.size := by
  have hl := bt_drop_ne h
  cases ho : ok ((bt s).drop p) with
  | false => rw [bad_of ho]; exact ⟨Nat.le_refl _, h⟩
  | true =>
    have hw := (rune_of hl (bt_drop_lt s p) ho).width
    rw [List.length_drop, bt_len] at hw
    omega
theorem hasPrefix_map : ∀ (p l : List UInt8), Lib.hasPrefix l p = decide ((p.map UInt8.toNat) <+: (l.map UInt8.toNat)) := by
  intro p l
  rw [Bool.eq_iff_iff, decide_eq_true_iff]
  unfold Lib.hasPrefix
  simp only [List.isPrefixOf_iff_prefix]
  constructor
  · rintro ⟨t, rfl⟩; exact ⟨t.map UInt8.toNat, by simp⟩
  · rintro ⟨t, h⟩
    have := congrArg (List.take p.length) h
    rw [List.take_left' (by simp), ← List.map_take] at this
    have := (List.map_inj_right (fun x y e => UInt8.toNat_inj.1 e)).1 this
    exact ⟨l.drop p.length, by have h2 := List.take_append_drop p.length l; rw [← this] at h2; exact h2⟩
theorem written_eq {l : List Nat} (hb : ∀ x ∈ l, x < 256) (h : (dec l).1 = 65533) : decide ([239, 191, 189] <+: l) = ok l := by
  cases ho : ok l with
  | true =>
    rw [decide_eq_true_iff]
    have hl : l ≠ [] := by rintro rfl; exact absurd h (by decide)
    have hr := rune_of hl hb ho
    rw [h] at hr
    generalize hr0 : 65533 = r at hr
    generalize (dec l).2 = w at hr
    cases hr with
    | one a t h => omega
    | two a b t h1 h2 h3 h4 => omega
    | three a b c t h1 h2 h3 h4 h5 h6 h7 h8 =>
      have ha : a = 239 := by omega
      have hb' : b = 191 := by omega
      have hc : c = 189 := by omega
      subst ha hb' hc
      exact ⟨t, rfl⟩
    | four a b c d t h1 h2 h3 h4 h5 h6 h7 h8 h9 h10 => omega
  | false =>
    rw [decide_eq_false_iff_not]
    rintro ⟨t, rfl⟩
    have := (Rune.three 239 191 189 t (by decide) (by decide) (by decide) (by decide) (by decide) (by decide) (by decide) (by decide)).ok
    have e : [239, 191, 189] ++ t = 239 :: 191 :: 189 :: t := rfl
    rw [e, this] at ho
    cases ho
theorem isWritten_any (s : ByteArray) (h : (dec (bt s)).1 = 65533) (w : World) : Calls Try.prog 100 #[.string s] w fun e w' => e = .returned (.bool (ok (bt s))) ∧ w' = w := by
  have hp := fun W => Try.strings_HasPrefix s ⟨#[239, 191, 189]⟩ W
  rw [hasPrefix_map] at hp
  rw [show List.map UInt8.toNat s.data.toList = bt s from rfl, show List.map UInt8.toNat ({ data := #[239, 191, 189] } : ByteArray).data.toList = [239, 191, 189] from rfl, written_eq (bt_lt s) h] at hp
  go_enter Try.func100, Try.ntmps100
  go_wp2_with (go_at_call 102; refine (hp _).mono ?_; rintro e w' ⟨rfl, rfl⟩)
  go_returns
  exact ⟨rfl, rfl⟩
theorem bt_rest (s : ByteArray) (p : Nat) : bt (s.extract p s.size) = (bt s).drop p := by
  rw [bt_ext, List.take_of_length_le (by rw [List.length_drop, bt_len]; exact Nat.le_refl _)]
theorem cut_from (s : ByteArray) {p : Nat} (h : p ≤ s.size) (W : World) : (Instr.slice 9 (.string s) (some (.int .i64 p)) none none).run Try.prog W = .ok (.string (s.extract p s.size)) W := by
  rw [run_slice_string_from_if W 9 s .i64 p Try.underlying9, if_pos ⟨by omega, by omega⟩, Int.toNat_natCast]
set_option maxHeartbeats 1000000 in
theorem runes_any (s : ByteArray) (hs : s.size ≤ 4611686018427387904) (w : World) : Calls Try.prog 97 #[.string s] w fun e w' => e = .returned (.int .i64 (runM (bt s))) ∧ Bl w w' := by
  go_enter Try.func97, Try.ntmps97
  go_wp2
  have hk0 : (w.iter s 0).heap[w.heap.size]? = some (.stringIter s 0) := w.iter_heap s 0
  have hb0 : Bl w (w.iter s 0) := (Bl.refl w).alloc _
  have hkw : w.heap.size ≤ w.heap.size := Nat.le_refl _
  generalize (w.iter s 0) = W0 at hk0 hb0 ⊢
  generalize hK : w.heap.size = k at hk0 ⊢
  replace hK : Hid (w.heap.size = k) := hK
  go_loopw [3] (fun n wr => ∃ (pos m : Nat), n = .int .i64 m ∧ wr.heap[k]? = some (.stringIter s pos) ∧ pos ≤ s.size ∧ m ≤ pos ∧ runA ((bt s).drop pos) m = runM (bt s) ∧ Bl w wr) (fun _ wr => s.size - itP wr k)
  case atStart => exact ⟨0, 0, rfl, hk0, Nat.zero_le _, Nat.le_refl _, by rw [List.drop_zero, runA_zero], hb0⟩
  case round =>
    obtain ⟨pos, m, rfl, hk, hp1, hm, hA, hb⟩ := hrel
    have hkw : w.heap.size ≤ k := Nat.le_of_eq hK.out
    replace hA : Hid (runA ((bt s).drop pos) m = runM (bt s)) := hA
    by_cases hp : pos < s.size
    · have hnx := fun ty => next_on (P := Try.prog) hk hp ty
      obtain ⟨hw1, hw2⟩ := dec_width s hp
      have hlt := bt_drop_lt s pos
      have hne := bt_drop_ne hp
      have hk' := itS_heap hk s (pos + (dec ((bt s).drop pos)).2)
      have hb' := itS_below hb hkw s (pos + (dec ((bt s).drop pos)).2)
      have e9 : IntKind.i64.wrap ((m : Int) + 1) = (m : Int) + 1 := IntWalk.i64_in _ (by omega)
      have hsl : ∀ W, (Instr.slice 9 (.string s) (some (.int .i64 pos)) none none).run Try.prog W = .ok (.string (s.extract pos s.size)) W := fun W => cut_from s hp1 W
      by_cases hr : (dec ((bt s).drop pos)).1 = 65533
      · have hiw := fun W => isWritten_any (s.extract pos s.size) (by rw [bt_rest]; exact hr) W
        rw [bt_rest] at hiw
        generalize hP : pos + (dec ((bt s).drop pos)).2 = pos' at hk' hb' hnx hw2
        replace hP : Hid (pos + (dec ((bt s).drop pos)).2 = pos') := hP
        rw [hr] at hnx
        replace hr : Hid ((dec ((bt s).drop pos)).1 = 65533) := hr
        generalize hW : itS (wr) k s pos' = W1 at hnx hk' hb'
        clear hW
        cases ho : ok ((bt s).drop pos) with
        | false =>
          rw [ho] at hiw
          go_wp2_with (go_at_call 100; refine (hiw _).mono ?_; rintro e w' ⟨rfl, rfl⟩)
          try rw [Exit.noGoto_ret]
          go_returns
          have := hA.out
          rw [runA_bad hne ho] at this
          exact ⟨by rw [← this]; rfl, hb'⟩
        | true =>
          rw [ho] at hiw
          go_wp2_with (go_at_call 100; refine (hiw _).mono ?_; rintro e w' ⟨rfl, rfl⟩)
          have h1 := hA.out
          rw [runA_ok hlt hne ho, List.drop_drop, hP.out] at h1
          have := hP.out
          exact ⟨⟨pos', m + 1, by simp, hk', hw2, by omega, h1, hb'⟩, by rw [itP_eq hk, itP_eq hk']; omega⟩
      · have ho : ok ((bt s).drop pos) = true := by simp [ok, hr]
        generalize hP : pos + (dec ((bt s).drop pos)).2 = pos' at hk' hb' hnx hw2
        replace hP : Hid (pos + (dec ((bt s).drop pos)).2 = pos') := hP
        generalize hW : itS (wr) k s pos' = W1 at hnx hk' hb'
        clear hW
        have hrq : (((dec ((bt s).drop pos)).1 : Int) == 65533) = false := by rw [beq_eq_false_iff_ne]; omega
        have h1 := hA.out
        rw [runA_ok hlt hne ho, List.drop_drop, hP.out] at h1
        replace h1 : Hid (runA (List.drop pos' (bt s)) (m + 1) = runM (bt s)) := h1
        replace ho : Hid (ok ((bt s).drop pos) = true) := ho
        generalize (dec ((bt s).drop pos)).1 = r at hnx hrq
        go_wp2
        have := hP.out
        exact ⟨⟨pos', m + 1, by simp, hk', hw2, by omega, h1, hb'⟩, by rw [itP_eq hk, itP_eq hk']; omega⟩
    · have hnx := fun ty => next_over (P := Try.prog) hk hp ty
      go_wp2
      go_returns
      have h1 := hA.out
      rw [List.drop_eq_nil_of_le (by rw [bt_len]; omega), runA_nil] at h1
      exact ⟨by rw [← h1]; rfl, hb⟩
end Go.Proofs.Ytmcjmdoeafhjpaa
