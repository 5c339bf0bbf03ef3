/- Towards the statements of package slab (layer 12): Slots. -/
import Derived.Test.YtkjdnebmhljciaaDoorSL
namespace Go.Proofs.YtkjdnebmhljciaaDoor
open Go.ChangeShapes Go.WideShapes Go.ChangeAt Go.RowKit
set_option linter.unusedVariables false
set_option linter.unusedSimpArgs false
set_option maxRecDepth 20000
theorem Sl.kept {w w' : World} {B b : Nat} {room used : Int} {T : Nat → Th} {n : Nat} (h : Sl w B b room used T n) (hb : Below w.heap.size w w') : Sl w' B b room used T n := by
  obtain ⟨v, xs, q, hv, hx⟩ := h.rows
  have hk : ∀ (k : Nat) (o : Obj), w.heap[k]? = some o → w'.heap[k]? = some o := fun k o ho => by rw [hb.block k (heap_lt ho)]; exact ho
  refine ⟨h.bB, h.nb, h.rm, h.us, ⟨v, xs, hk _ _ q, ⟨hv.1, ?_⟩, hx⟩, h.out, fun s hh bs e => ?_, h.apart⟩
  · rcases hv.2 with e | ⟨g, cap, cur, e, a1, a2, a3⟩
    · exact .inl e
    · exact .inr ⟨g, cap, cur, e, a1, hk _ _ a2, a3⟩
  · obtain ⟨a1, a2, a3⟩ := h.th s hh bs e
    exact ⟨a1, hk _ _ a2, a3⟩
theorem getT_nat (T : Nat → Th) (i : Nat) : getT T i = T i := by
  unfold getT
  rw [if_neg (by omega)]
  simp
/-- The slots that are taken, rising, of the first so many. -/
def takenL (T : Nat → Th) (i : Nat) : List Nat := (List.range i).filter fun k => (T k).isSome
def intsV (L : List Nat) : List Value := L.map fun (k : Nat) => Value.int .i64 (k : Int)
theorem info3 : (Tryd.prog.info? 3).map (fun i => (i.zero, i.size, i.bytes)) = some (some (.int .i64 0), 1, 8) := by kernel_rfl
theorem one_new (w : World) (x : Value) (t : TypeId) (g : Nat) (hg : g = w.heap.size) : ∀ (j : Nat) (u : Value), [x][j]? = some u → (w.alloc (.cells #[x] t)).cell? ((⟨g, 0, none⟩ : Addr).add j) = some u := news_new w [x] t g hg
set_option maxHeartbeats 2000000 in
theorem slots_any (w : World) (B b : Nat) (room used : Int) (T : Nat → Th) (n : Nat) (hSl : Sl w B b room used T n) :
    Calls Tryd.prog 15 #[.pointer (some ⟨b, 0, none⟩)] w fun e w' => (∃ v, e = .returned v ∧ w'.ownsRow w.heap.size 3 1 v (takenL T (64 * n)).length (intsV (takenL T (64 * n)))) ∧ Below w.heap.size w w' := by
  obtain ⟨c0, c1, c2, -, hbs⟩ := hSl.cells
  have k1 := made_yes w b c0
  have hn := hSl.nb
  obtain ⟨v, xs, hb, hv, hx⟩ := hSl.rows
  have c3 : w.cell? ⟨b, 3, none⟩ = some v := by rw [cell_of hb]; rfl
  have hw : IntKind.i64.wrap ((n : Int) * 64) = (n : Int) * 64 := IntWalk.i64_in _ (by omega)
  obtain ⟨p0, c, rfl⟩ : ∃ p c, v = .slice p n c := by
    rcases hv.2 with ⟨e, e2⟩ | ⟨g, cap, cur, e, _⟩
    · subst e2; exact ⟨_, _, e⟩
    · exact ⟨_, _, e⟩
  clear hb hv hx
  obtain ⟨i3, hi, hz0, hz1, hz2⟩ := info_parts info3
  go_enter Tryd.func15, Tryd.ntmps15
  go_wp2_with (go_at_call 29; refine k1.mono ?_; rintro e w' ⟨rfl, hw⟩; rw [hw]; clear hw)
  go_loopw [14, 3] (fun n1 v1 wr => ∃ i : Nat, n1 = .int .i64 i ∧ i ≤ 64 * n ∧ wr.ownsRow w.heap.size 3 1 v1 (takenL T i).length (intsV (takenL T i)) ∧ Below w.heap.size w wr) (fun n1 _ _ => 64 * n - (intOf n1).toNat)
  case atStart => exact ⟨0, rfl, by omega, ⟨by simp [takenL, intsV], .inl ⟨rfl, by simp [takenL]⟩⟩, Below.refl _ _⟩
  case round =>
    obtain ⟨i, rfl, hi2, hown, hbel⟩ := hrel
    by_cases hin : i < 64 * n
    · have d : decide ((i : Int) < (n : Int) * 64) = true := by rw [decide_eq_true_eq]; omega
      have e9 : IntKind.i64.wrap ((i : Int) + 1) = (i : Int) + 1 := IntWalk.i64_in _ (by omega)
      have k2 := thing_any wr B b room used T n (hSl.kept hbel) i (by unfold I64; omega)
      rw [getT_nat] at k2
      have q1 := nen_nil wr
      have q2 := fun a m c => nen_some a m c wr
      have hlen : (takenL T i).length ≤ i := by
        have := List.length_filter_le (fun k => (T k).isSome) (List.range i)
        simpa [takenL] using this
      cases hT : T i with
      | none =>
        rw [hT] at k2
        unfold thV at k2
        have hs0 : takenL T (i + 1) = takenL T i := by simp [takenL, List.range_succ, List.filter_append, hT]
        have hs : Hid _ := hs0
        clear hs0
        replace hown : Hid _ := hown
        go_wp2_with (go_at_call 30; refine k2.mono ?_; rintro e w' ⟨rfl, hw⟩; rw [hw]; clear hw)
        refine ⟨⟨i + 1, by simp, by omega, ?_, hbel⟩, by simp [intOf]; omega⟩
        rw [hs.out]
        exact hown.out
      | some x =>
        obtain ⟨hh, bs⟩ := x
        rw [hT] at k2
        unfold thV at k2
        have hs0 : takenL T (i + 1) = takenL T i ++ [i] := by simp [takenL, List.range_succ, List.filter_append, hT]
        have hs : Hid _ := hs0
        clear hs0
        have hsz := hbel.size
        go_wp2_with (first | (go_at_call 30; refine k2.mono ?_; rintro e w' ⟨rfl, hw⟩; rw [hw]; clear hw) | (at_builtin; refine wpList_append_own_at _ rfl _ _ 37 rfl w.heap.size 3 i3 (.int .i64 0) 1 8 Tryd.underlying37 hi hz0 hz1 hz2 rfl (by decide) _ _ _ rfl (hown.alloc _) _ 1 1 [.int .i64 (i : Int)] rfl rfl (one_new _ _ _ _ rfl) (by simp [Value.oneCell']) (by simp [maxLen]; omega) (by omega) (by simp; omega) ?_; intro v' wa hown' hgrow hnil hloc))
        refine ⟨⟨i + 1, by simp, by omega, ?_, ?_⟩, by simp [intOf]; omega⟩
        · rw [hs.out]
          simpa [intsV] using hown'
        · exact (hbel.alloc hsz _).grown hgrow (by simp; omega) (fun k e => (hown.lt k e).1)
    · have d : decide ((i : Int) < (n : Int) * 64) = false := by rw [decide_eq_false_iff_not]; omega
      obtain rfl : i = 64 * n := by omega
      replace hown : Hid _ := hown
      go_wp2
      all_goals go_returns
      all_goals exact ⟨⟨_, rfl, hown.out⟩, hbel⟩
end Go.Proofs.YtkjdnebmhljciaaDoor
