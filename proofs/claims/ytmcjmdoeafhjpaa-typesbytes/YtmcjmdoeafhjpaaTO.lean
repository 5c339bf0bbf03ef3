/- Towards the statements of package types (layer 10): Decode's numbers and texts. -/
import Derived.Test.YtmcjmdoeafhjpaaTN
namespace Go.Proofs.Ytmcjmdoeafhjpaa
open Go.ChangeShapes Go.WideShapes Go.ChangeAt
open Go.RowKit Go.Shelf
set_option linter.unusedVariables false
set_option linter.unusedSimpArgs false
set_option maxRecDepth 20000
theorem get_none : getV ⟨([] : List UInt8).toArray⟩ 0 1 = 0 := by decide
theorem get_one (x : UInt8) : getV ⟨[x].toArray⟩ 0 1 = (x.toNat : Int) := by
  have h : errOf (⟨[x].toArray⟩ : ByteArray).size 0 1 = 0 := errOf_ok (by decide) (by decide) (by simp [ByteArray.size])
  rw [getV, if_pos h]
  show numAt _ 0 1 = _
  rw [numAt, numAt]
  have := bt_list (⟨[x].toArray⟩ : ByteArray) 0 (by simp)
  rw [← this]; simp
theorem take_one (st : St) : (takeM st 1).2 = (numM st).2 ∧ getV ⟨(takeM st 1).1.toArray⟩ 0 1 = (numM st).1 ∧ (takeM st 1).1.length ≤ 1 := by
  match st with
  | none => exact ⟨rfl, get_none, by simp [takeM]⟩
  | some [] => exact ⟨rfl, get_none, by simp [takeM]⟩
  | some (x :: r) =>
    have h : takeM (some (x :: r)) 1 = ([x], some r) := by rw [takeM, if_neg (by simp)]; rfl
    rw [h]
    exact ⟨rfl, get_one x, by simp⟩
set_option maxHeartbeats 2000000 in
theorem number_any' (R : Nat) (s : ByteArray) (st : St) (hs : s.size ≤ 100000000) (w : World) (hR : Rd R s st w) :
    Calls Try.prog 65 #[.pointer (some ⟨R + 4, 0, none⟩)] w fun e w' => e = .returned (.int .i64 (numM st).1) ∧ Rd R s (numM st).2 w' ∧ RW R w w' := by
  have c4 : w.cell? ⟨R + 4, 0, none⟩ = some (.func (.func 64) #[] #[.pointer (some ⟨R + 3, 0, none⟩), .pointer (some ⟨R, 0, none⟩), .pointer (some ⟨R + 2, 0, none⟩)]) := by rw [cell_at hR.h4]; rfl
  have k1 := take_any R s st 1 (by omega) hs w hR
  obtain ⟨t1, t2, t3⟩ := take_one st
  rw [t1] at k1
  have k2 := fun W => get_any ⟨(takeM st 1).1.toArray⟩ 0 1 (by show (takeM st 1).1.toArray.size ≤ maxLen; rw [List.size_toArray]; unfold maxLen; omega) (by omega) W
  rw [t2] at k2
  obtain ⟨b0, b1⟩ := numM_bd st
  have e1 : IntKind.i64.wrap (numM st).1 = (numM st).1 := IntWalk.i64_in _ (by omega)
  generalize (numM st).1 = v at k2 e1 b0 b1 ⊢
  generalize (numM st).2 = st' at k1 ⊢
  generalize errOf _ 0 1 = er at k2
  generalize (⟨(takeM st 1).1.toArray⟩ : ByteArray) = S at k1 k2
  clear t1 t2 t3
  go_enter Try.func65, Try.ntmps65
  go_wp2_with first | (go_at_call 64; refine k1.mono ?_; rintro e w1 ⟨rfl, hR1, hw1⟩) | (go_at_call 66; refine (k2 _).mono ?_; rintro e w2 ⟨rfl, hg2⟩)
  go_returns
  exact ⟨rfl, hR1.gr hg2.below, hw1.trans (RW.of hg2.below (by have := hR1.lt; omega))⟩
theorem clone_any (s : ByteArray) (hs : s.size ≤ 281474976710656) (w : World) : Calls Try.prog 68 #[.string s] w fun e w' => e = .returned (.string s) ∧ Bl w w' := by
  have k := Try.stringslite_Clone s w hs
  go_enter Try.func68, Try.ntmps68
  go_wp2_with (go_at_call 90; refine k.mono ?_; rintro e w1 ⟨rfl, hb1⟩)
  go_returns
  exact ⟨rfl, hb1⟩
theorem take_len (st : St) (n : Nat) : (takeM st n).1.length ≤ n := by
  unfold takeM
  split
  · simp
  · split
    · simp
    · simp; omega
set_option maxHeartbeats 4000000 in
theorem text_any' (R : Nat) (s : ByteArray) (st : St) (hs : s.size ≤ 100000000) (w : World) (hR : Rd R s st w) :
    Calls Try.prog 67 #[.pointer (some ⟨R + 4, 0, none⟩), .pointer (some ⟨R + 1, 0, none⟩)] w fun e w' => e = .returned (.string ⟨(txtD st).1.toArray⟩) ∧ Rd R s (txtD st).2 w' ∧ RW R w w' := by
  have c4 : w.drew.cell? ⟨R + 4, 0, none⟩ = some (.func (.func 64) #[] #[.pointer (some ⟨R + 3, 0, none⟩), .pointer (some ⟨R, 0, none⟩), .pointer (some ⟨R + 2, 0, none⟩)]) := by rw [cell_at (w := w.drew) hR.h4]; rfl
  have c1 : w.drew.cell? ⟨R + 1, 0, none⟩ = some (.func (.func 65) #[] #[.pointer (some ⟨R + 4, 0, none⟩)]) := by rw [cell_at (w := w.drew) hR.h1]; rfl
  have hdr : Bl w w.drew := by go_grown
  have hRW0 := RW.of (R := R) hdr (by have := hR.lt; omega)
  have k1 := number_any' R s st hs w.drew (hR.gr hdr)
  obtain ⟨b0, b1⟩ := numM_bd st
  have hcast : ((numM st).1.toNat : Int) = (numM st).1 := by omega
  have k2 := fun W (h : Rd R s (numM st).2 W) => take_any R s (numM st).2 (numM st).1.toNat (by omega) hs W h
  rw [hcast] at k2
  have k3 := fun W => clone_any ⟨(takeM (numM st).2 (numM st).1.toNat).1.toArray⟩ (by show (takeM _ _).1.toArray.size ≤ _; rw [List.size_toArray]; have := take_len (numM st).2 (numM st).1.toNat; omega) W
  unfold txtD
  generalize takeM (numM st).2 (numM st).1.toNat = tk at k2 k3 ⊢
  generalize (numM st).1 = v at k1 k2
  generalize (numM st).2 = st' at k1 k2
  clear b0 b1 hcast
  go_enter Try.func67, Try.ntmps67
  go_upto_region 1 with fail
  go_region_with first | (go_at_call 65; refine k1.mono ?_; rintro e w1 ⟨rfl, hR1, hw1⟩; have c4' : w1.cell? ⟨R + 4, 0, none⟩ = some (.func (.func 64) #[] #[.pointer (some ⟨R + 3, 0, none⟩), .pointer (some ⟨R, 0, none⟩), .pointer (some ⟨R + 2, 0, none⟩)]) := by rw [cell_at hR1.h4]; rfl) | (go_at_call 64; refine (k2 _ hR1).mono ?_; rintro e w2 ⟨rfl, hR2, hw2⟩) | (go_at_call 68; refine (k3 _).mono ?_; rintro e w3 ⟨rfl, hb3⟩)
  all_goals go_wp2
  all_goals go_returns
  all_goals exact ⟨rfl, hR2.gr hb3, hRW0.trans (hw1.trans (hw2.trans (RW.of hb3 (by have := hR2.lt; omega))))⟩
set_option maxHeartbeats 2000000 in
theorem whole_any (R : Nat) (s : ByteArray) (st : St) (hs : s.size ≤ 100000000) (w : World) (hR : Rd R s st w) :
    Calls Try.prog 69 #[.pointer (some ⟨R + 3, 0, none⟩), .pointer (some ⟨R + 2, 0, none⟩), .pointer (some ⟨R, 0, none⟩)] w fun e w' => e = .returned (.bool (decide (st = some []))) ∧ w' = w := by
  obtain ⟨h0, h1, h4, pos, sh, h2, h3, hp, hst⟩ := hR
  have c0 : w.cell? ⟨R, 0, none⟩ = some (.string s) := by rw [cell_at h0]; rfl
  have c2 : w.cell? ⟨R + 2, 0, none⟩ = some (.int .i64 pos) := by rw [cell_at h2]; rfl
  have c3 : w.cell? ⟨R + 3, 0, none⟩ = some (.bool sh) := by rw [cell_at h3]; rfl
  rcases hst with ⟨rfl, rfl⟩ | ⟨rfl, rfl⟩
  · go_enter Try.func69, Try.ntmps69
    go_wp2
    go_returns
    exact ⟨by simp, rfl⟩
  · have hl : decide (some (s.data.toList.drop pos) = some []) = ((pos : Int) == (s.size : Int)) := by
      have hsl : s.data.toList.length = s.size := rfl
      rw [Bool.eq_iff_iff, decide_eq_true_iff, beq_iff_eq]
      simp only [Option.some.injEq, List.drop_eq_nil_iff]
      omega
    rw [hl]
    go_enter Try.func69, Try.ntmps69
    go_wp2
    go_returns
    exact ⟨rfl, rfl⟩
theorem alloc5 (w : World) (a b c d e : Obj) : (((((w.alloc a).alloc b).alloc c).alloc d).alloc e).heap[w.heap.size]? = some a ∧ (((((w.alloc a).alloc b).alloc c).alloc d).alloc e).heap[w.heap.size + 1]? = some b ∧ (((((w.alloc a).alloc b).alloc c).alloc d).alloc e).heap[w.heap.size + 2]? = some c ∧ (((((w.alloc a).alloc b).alloc c).alloc d).alloc e).heap[w.heap.size + 3]? = some d ∧ (((((w.alloc a).alloc b).alloc c).alloc d).alloc e).heap[w.heap.size + 4]? = some e := by
  have n : ∀ (W : World) (o : Obj), (W.alloc o).heap[W.heap.size]? = some o := fun W o => by
    show (W.heap.push _)[W.heap.size]? = _
    simp
  have s1 := size_new w a
  have s2 := size_new (w.alloc a) b
  have s3 := size_new ((w.alloc a).alloc b) c
  have s4 := size_new (((w.alloc a).alloc b).alloc c) d
  refine ⟨?_, ?_, ?_, ?_, ?_⟩
  · rw [heap_old _ e (by omega), heap_old _ d (by omega), heap_old _ c (by omega), heap_old _ b (by omega)]; exact n w a
  · rw [heap_old _ e (by omega), heap_old _ d (by omega), heap_old _ c (by omega)]; have := n (w.alloc a) b; rw [s1] at this; exact this
  · rw [heap_old _ e (by omega), heap_old _ d (by omega)]; have := n ((w.alloc a).alloc b) c; rw [s2, s1] at this; exact this
  · rw [heap_old _ e (by omega)]; have := n (((w.alloc a).alloc b).alloc c) d; rw [s3, s2, s1] at this; exact this
  · have := n ((((w.alloc a).alloc b).alloc c).alloc d) e; rw [s4, s3, s2, s1] at this; exact this
set_option maxHeartbeats 2000000 in
theorem reader_any (s : ByteArray) (w : World) :
    Calls Try.prog 34 #[.string s] w fun e w' => e = .returned (.tuple #[.func (.func 65) #[] #[.pointer (some ⟨w.heap.size + 4, 0, none⟩)], .func (.func 67) #[] #[.pointer (some ⟨w.heap.size + 4, 0, none⟩), .pointer (some ⟨w.heap.size + 1, 0, none⟩)], .func (.func 69) #[] #[.pointer (some ⟨w.heap.size + 3, 0, none⟩), .pointer (some ⟨w.heap.size + 2, 0, none⟩), .pointer (some ⟨w.heap.size, 0, none⟩)]]) ∧ Rd w.heap.size s (some s.data.toList) w' ∧ Bl w w' := by
  go_enter Try.func34, Try.ntmps34
  go_wp2
  obtain ⟨q0, q1, q2, q3, q4⟩ := alloc5 w (.cells #[.string s] 9) (.cells #[.func (.func 65) #[] #[.pointer (some ⟨w.heap.size + 4, 0, none⟩)]] 71) (.cells #[.int .i64 0] 3) (.cells #[.bool false] 4) (.cells #[.func (.func 64) #[] #[.pointer (some ⟨w.heap.size + 3, 0, none⟩), .pointer (some ⟨w.heap.size, 0, none⟩), .pointer (some ⟨w.heap.size + 2, 0, none⟩)]] 100)
  go_returns
  exact ⟨rfl, ⟨q0, q1, q4, 0, false, q2, q3, Nat.zero_le _, .inr ⟨rfl, rfl⟩⟩, by go_grown⟩
end Go.Proofs.Ytmcjmdoeafhjpaa
