/- Towards the statements of package slab (layer 12): Read, Write. -/
import Derived.Test.YtooblonafnlfcaaDoorSH
import Derived.Lib.BufferWrite
import Derived.Lib.BufferRead
import Derived.Laws.BytesArg
namespace Go.Proofs.YtooblonafnlfcaaDoor
open Go.ChangeShapes Go.WideShapes Go.ChangeAt Go.RowKit
set_option linter.unusedVariables false
set_option linter.unusedSimpArgs false
set_option maxRecDepth 20000
variable {Yo : Nat → Prop}
theorem part_ok (w : World) (B b : Nat) (room used : Int) (T : Nat → Th) (n : Nat) (h : SlF Yo w B b room used T n) (s : Int) (hs : I64 s) (hh : Nat) (bs : List Int) (hT : getT T s = some (hh, bs)) (a m : Nat) (ham : a + m ≤ bs.length) :
    Calls Tryd.prog 71 #[.pointer (some ⟨b, 0, none⟩), .int .i64 s, .int .i64 a, .int .i64 m] w fun e w' => (∃ off, off + m ≤ bs.length ∧ (0 < m → off = a) ∧ e = .returned (.tuple #[.slice (some ⟨hh, off, none⟩) m (bs.length - a), .int .i64 0])) ∧ w' = w := by
  obtain ⟨c0, c1, c2, -, -⟩ := h.cells
  have k1 := made_yes w b c0
  have k2 := thing_any w B b room used T n h s hs
  rw [hT] at k2
  unfold thV at k2
  have hl : bs.length ≤ 128 := by
    unfold getT at hT
    split at hT
    · cases hT
    · exact (h.th _ _ _ hT).2.2.2.1
  have q2 := fun a m c => eqn_some a m c w
  have w1 : IntKind.i64.wrap ((bs.length : Int) - a) = (bs.length : Int) - a := IntWalk.i64_in _ (by omega)
  have w2 : IntKind.i64.wrap ((a : Int) + m) = (a : Int) + m := IntWalk.i64_in _ (by omega)
  have d1 : decide ((bs.length : Int) - a < m) = false := by simp; omega
  go_enter Tryd.func71, Tryd.ntmps71
  go_wp2_with (first | (go_at_call 54; refine k1.mono ?_; rintro e w' ⟨rfl, hw⟩; rw [hw]; clear hw) | (go_at_call 78; refine k2.mono ?_; rintro e w' ⟨rfl, hw⟩; rw [hw]; clear hw))
  all_goals go_returns
  all_goals first
    | exact ⟨⟨a, by omega, fun _ => rfl, rfl⟩, rfl⟩
    | exact ⟨⟨0, by omega, fun _ => by omega, rfl⟩, rfl⟩
theorem read_nil (s a m : Int) (w : World) : Calls Tryd.prog 52 #[.pointer none, .int .i64 s, .int .i64 a, .int .i64 m] w fun e w' => e = .returned (.tuple #[.string ⟨#[]⟩, .int .i64 1]) ∧ w' = w := by
  have k1 := part_nil s a m w
  have hc := Lib.run_convert_nil_bytes (P := Tryd.prog) w 65 9 5 0 Tryd.underlying65 Tryd.underlying5 Tryd.underlying9
  go_enter Tryd.func52, Tryd.ntmps52
  go_wp2_with (go_at_call 71; refine k1.mono ?_; rintro e w' ⟨rfl, hw⟩; rw [hw]; clear hw)
  all_goals go_returns
  all_goals exact ⟨rfl, rfl⟩
theorem write_nil (s a : Int) (w : World) : Calls Tryd.prog 53 #[.pointer none, .int .i64 s, .int .i64 a, .string ⟨#[]⟩] w fun e w' => e = .returned (.int .i64 1) ∧ w' = w := by
  have k1 := fun m => part_nil s a m w
  have hc := Lib.run_copy_empty_string (P := Tryd.prog) w 65 9 3 5 none 0 0 ⟨#[]⟩ Tryd.underlying65 (by kernel_rfl) rfl
  go_enter Tryd.func53, Tryd.ntmps53
  go_wp2_with (go_at_call 71; refine (k1 _).mono ?_; rintro e w' ⟨rfl, hw⟩; rw [hw]; clear hw)
  all_goals go_returns
  all_goals exact ⟨rfl, rfl⟩
theorem read_ok (w : World) (B b : Nat) (room used : Int) (T : Nat → Th) (n : Nat) (h : SlF Yo w B b room used T n) (s : Int) (hs : I64 s) (hh : Nat) (bs : List Int) (hT : getT T s = some (hh, bs)) (a m : Nat) (ham : a + m ≤ bs.length) :
    Calls Tryd.prog 52 #[.pointer (some ⟨b, 0, none⟩), .int .i64 s, .int .i64 a, .int .i64 m] w fun e w' => e = .returned (.tuple #[.string (strOfNums ((bs.drop a).take m)), .int .i64 0]) ∧ w' = w := by
  have k1 := part_ok w B b room used T n h s hs hh bs hT a m ham
  have hb : w.heap[hh]? = some (.cells (byV bs) 5 (0, 0)) := by
    unfold getT at hT
    split at hT
    · cases hT
    · exact (h.th _ _ _ hT).2.1
  have hc : ∀ off, off + m ≤ bs.length → (0 < m → off = a) → (convert 65 9 (.slice (some ⟨hh, off, none⟩) m (bs.length - a))).run Tryd.prog w = .ok (.string (strOfNums ((bs.drop a).take m))) w := fun off h1 h2 =>
    run_convert_bytes_arg (P := Tryd.prog) w 65 5 Tryd.underlying65 Tryd.underlying5 hh off m (bs.length - a) ((bs.drop a).take m) (by simp; omega) (fun i hi => by
      obtain rfl := h2 (by omega)
      rw [cell_of hb]
      have e1 : off + i < bs.length := by omega
      rw [List.getD_eq_getElem?_getD, List.getElem?_take, if_pos hi, List.getElem?_drop, List.getElem?_eq_getElem e1]
      simp only [byV, List.getElem?_toArray, List.getElem?_map, List.getElem?_eq_getElem e1, Option.map_some, Option.getD_some]) 9 Tryd.underlying9
  go_enter Tryd.func52, Tryd.ntmps52
  go_wp2_with (go_at_call 71; refine k1.mono ?_; rintro e w' ⟨⟨off, ho1, ho2, rfl⟩, hw⟩; rw [hw]; clear hw; have hcc := hc off ho1 ho2)
  all_goals go_returns
  all_goals exact ⟨rfl, rfl⟩
def numsOf (t : ByteArray) : List Int := t.data.toList.map fun x => (x.toNat : Int)
def wr (bs : List Int) (a : Nat) (t : ByteArray) : List Int := bs.take a ++ numsOf t ++ bs.drop (a + t.size)
theorem numsOf_len (t : ByteArray) : (numsOf t).length = t.size := by rw [numsOf, List.length_map, Array.length_toList]; rfl
theorem wr_len (bs : List Int) (a : Nat) (t : ByteArray) (h : a + t.size ≤ bs.length) : (wr bs a t).length = bs.length := by simp [wr, numsOf_len]; omega
theorem SlF.writeM {W : World} {B b : Nat} {room used : Int} {T : Nat → Th} {n : Nat} (h : SlF Yo W B b room used T n) {k hh : Nat} {bs cs : List Int} (hT : T k = some (hh, bs)) (hl : cs.length = bs.length) (hb8 : ∀ x ∈ cs, 0 ≤ x ∧ x ≤ 255) :
    SlF Yo (W.setRow hh (byV cs)) B b room used (upd T k (some (hh, cs))) n ∧ FrF Yo B b W (W.setRow hh (byV cs)) := by
  obtain ⟨a1, a2, a3, a4, a5⟩ := h.th k hh bs hT
  obtain ⟨v, xs, hb, hv, hx⟩ := h.rows
  have hset := setRow_heap W hh (byV bs) (byV cs) 5 (0, 0) a2
  have hoth : ∀ (j : Nat) (o : Obj), j ≠ hh → W.heap[j]? = some o → (W.setRow hh (byV cs)).heap[j]? = some o := fun j o hj ho => by rw [setRow_other W hh j _ hj]; exact ho
  have hbh : b ≠ hh := by rintro rfl; rw [hb] at a2; simp at a2
  have hk : k < 64 * n := by
    by_cases e : k < 64 * n
    · exact e
    · rw [h.out k (by omega)] at hT; cases hT
  have hx' : RowsOk xs (upd T k (some (hh, cs))) n := by
    have hq : thV (some (hh, cs)) = thV (some (hh, bs)) := by simp [thV, hl]
    refine ⟨hx.len, fun i j hi hj => ?_, fun i hi => ?_⟩
    · rw [hx.th i j hi hj]
      by_cases e : 64 * i + j = k
      · rw [e, upd_self, hT, hq]
      · rw [upd_ne _ _ e]
    · rw [hx.ct i hi]
      have : cnt (upd T k (some (hh, cs))) i = cnt T i := by
        unfold cnt
        congr 1
        apply List.filter_congr
        intro j hj
        by_cases e : 64 * i + j = k
        · rw [e, upd_self, hT]; rfl
        · rw [upd_ne _ _ e]
      rw [this]
  refine ⟨⟨h.bB, h.nb, h.rm, h.us, ⟨v, xs, hoth b _ hbh hb, ?_, hx'⟩, fun t ht => ?_, fun t gg ds ht => ?_, fun t t2 gg ds es ht ht2 => ?_, h.off.go (by have := heap_lt a2; simp [World.setRow]) (hoth b _ hbh hb) (h.offr hb) (h.off.upd _ _ (by rintro _ _ e; cases e; exact h.off.2.2.1 _ _ _ hT))⟩, ⟨⟨rfl, rfl, rfl, ?_, fun j hj => setRow_other W hh j _ (by omega)⟩, fun j o hj ho h73 h5 => hoth j o (by rintro rfl; rw [ho] at a2; cases a2; exact h5 _ _ rfl) ho, fun j hj _ => setRow_other W hh j _ (by rintro rfl; exact h.off.2.2.1 _ _ _ hT hj)⟩⟩
  · refine ⟨hv.1, ?_⟩
    rcases hv.2 with e | ⟨g, cap, cur, e, q1, q2, q3⟩
    · exact .inl e
    · refine .inr ⟨g, cap, cur, e, q1, hoth g _ ?_ q2, q3⟩
      rintro rfl
      rw [q2] at a2
      cases a2
  · rw [upd_ne _ _ (by omega)]; exact h.out t ht
  · by_cases e : t = k
    · subst e
      rw [upd_self] at ht
      cases ht
      exact ⟨a1, hset, by omega, by omega, hb8⟩
    · rw [upd_ne _ _ e] at ht
      obtain ⟨q1, q2, q3, q4, q5⟩ := h.th t gg ds ht
      refine ⟨q1, hoth gg _ ?_ q2, q3, q4, q5⟩
      rintro rfl
      exact e (h.apart t k gg ds bs ht hT)
  · by_cases e : t = k <;> by_cases e2 : t2 = k
    · omega
    · subst e
      rw [upd_self] at ht
      rw [upd_ne _ _ e2] at ht2
      cases ht
      exact h.apart t t2 hh bs es hT ht2
    · subst e2
      rw [upd_self] at ht2
      rw [upd_ne _ _ e] at ht
      cases ht2
      exact h.apart t t2 hh ds bs ht hT
    · rw [upd_ne _ _ e] at ht
      rw [upd_ne _ _ e2] at ht2
      exact h.apart t t2 gg ds es ht ht2
  · have := heap_lt a2
    have h2 := heap_lt hset
    simp [World.setRow]
theorem write_ok (w : World) (B b : Nat) (room used : Int) (T : Nat → Th) (n : Nat) (h : SlF Yo w B b room used T n) (k : Nat) (hk : I64 k) (hh : Nat) (bs : List Int) (hT : T k = some (hh, bs)) (a : Nat) (t : ByteArray) (ham : a + t.size ≤ bs.length) :
    Calls Tryd.prog 53 #[.pointer (some ⟨b, 0, none⟩), .int .i64 k, .int .i64 a, .string t] w fun e w' => e = .returned (.int .i64 0) ∧ SlF Yo w' B b room used (upd T k (some (hh, wr bs a t))) n ∧ FrF Yo B b w w' := by
  have hT2 : getT T k = some (hh, bs) := by simp [getT, hT]
  have k1 := part_ok w B b room used T n h k hk hh bs hT2 a t.size ham
  obtain ⟨a1, a2, a3, a4, a5⟩ := h.th k hh bs hT
  have hc : ∀ off, off + t.size ≤ bs.length → (0 < t.size → off = a) → (Builtin.copy_ #[65, 9] 3 #[.slice (some ⟨hh, off, none⟩) t.size (bs.length - a), .string t]).run Tryd.prog w = .ok (goInt t.size) (w.setRow hh (byV (wr bs a t))) := fun off h1 h2 => by
    have hc := Lib.run_copy_row_string (P := Tryd.prog) w 65 9 3 5 hh off t.size (bs.length - a) t (byV bs) 5 Tryd.underlying65 (by kernel_rfl) a2 (Nat.le_refl _) (by simp [byV]; omega)
    have e1 : ((byV bs).toList.take off ++ Lib.byteCells t.data.toList ++ (byV bs).toList.drop (off + t.size)).toArray = byV (wr bs a t) := by
      by_cases hz : 0 < t.size
      · obtain rfl := h2 hz
        simp [byV, wr, numsOf, Lib.byteCells]
      · have hz0 : t.data.toList = [] := List.eq_nil_of_length_eq_zero (by rw [Array.length_toList]; have : t.data.size = t.size := rfl; omega)
        have hz1 : t.size = 0 := by omega
        simp [byV, wr, numsOf, Lib.byteCells, hz0, hz1]
    rw [e1] at hc
    exact hc
  have hM := h.writeM hT (wr_len bs a t ham) (fun x hx => by
    simp only [wr, numsOf, List.mem_append, List.mem_map] at hx
    rcases hx with (hx | ⟨y, _, rfl⟩) | hx
    · exact a5 x (List.mem_of_mem_take hx)
    · have := y.toNat_lt; omega
    · exact a5 x (List.mem_of_mem_drop hx))
  replace hM : Hid _ := hM
  clear hT2 a2
  go_enter Tryd.func53, Tryd.ntmps53
  go_wp2_with (go_at_call 71; refine k1.mono ?_; rintro e w' ⟨⟨off, ho1, ho2, rfl⟩, hw⟩; rw [hw]; clear hw; have hcc := hc off ho1 ho2)
  all_goals go_returns
  all_goals exact ⟨rfl, hM.out⟩
end Go.Proofs.YtooblonafnlfcaaDoor
