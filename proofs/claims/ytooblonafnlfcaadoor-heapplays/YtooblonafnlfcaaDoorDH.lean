/- Towards HeapPlays: the document's At of an object. -/
import Derived.Test.YtooblonafnlfcaaDoorDG
namespace Go.Proofs.YtooblonafnlfcaaDoor
open Go.ChangeShapes Go.WideShapes Go.ChangeAt Go.RowKit
set_option linter.unusedVariables false
set_option linter.unusedSimpArgs false
set_option maxRecDepth 20000
theorem oat_no (w : World) (B b r t : Nat) (vL : Value) (L : List Do) (hb : w.heap[b]? = some (.cells #[.pointer (some ⟨r, 0, none⟩), .pointer (some ⟨t, 0, none⟩), vL] 50 (0, 0))) (hrow : w.ownsRow B 45 4 vL L.length (oCells L)) (hl : L.length ≤ 1000) (s : Int) (g : Nat) (hn : ∀ x ∈ L, ¬ (x.s = s ∧ x.g = g)) :
    Calls Tryd.prog 18 #[.pointer (some ⟨b, 0, none⟩), .agg #[.int .i64 s, .int .u64 g]] w fun e w' => e = .returned (.int .i64 (-1)) ∧ Below w.heap.size w w' := by
  have hb1 := (Below.refl _ w).alloc (Nat.le_refl _) (.cells #[.int .i64 s, .int .u64 g] 34)
  have hy := heap_alloc_new w (.cells #[.int .i64 s, .int .u64 g] 34)
  have h2 := (hb1.block _ (heap_lt hb)).trans hb
  have hrow2 := row_kept hrow (fun g' hg' => hb1.block _ (by obtain ⟨c, e⟩ := row_cells hrow hg'; exact heap_lt e))
  obtain ⟨p, c, rfl⟩ := H.own_shape hrow
  replace hn : Hid _ := hn
  go_enter Tryd.func18, Tryd.ntmps18
  go_upto_region 1 with fail
  clear hb hrow
  generalize w.alloc (.cells #[.int .i64 s, .int .u64 g] 34) = W at hb1 hy h2 hrow2 ⊢
  have c2 : W.cell? ⟨b, 2, none⟩ = some (.slice p L.length c) := by rw [cell_of h2]; rfl
  have y0 := cell_of hy 0
  have y1 := cell_of hy 1
  simp at y0 y1
  go_wp2
  go_loopw [5] (fun n5 wr => ∃ j m : Nat, n5 = .int .i64 j ∧ j ≤ L.length ∧ wr = W.drewN m) (fun n5 _ => L.length - (valOf n5).toNat)
  case atStart => exact ⟨0, 0, rfl, by omega, rfl⟩
  case round =>
    obtain ⟨j, m, rfl, hj, hw⟩ := hrel
    rw [hw]; clear hw
    by_cases hin : j < L.length
    · have d : decide ((j : Int) < L.length) = true := by simp; omega
      have e9 : IntKind.i64.wrap ((j : Int) + 1) = (j : Int) + 1 := IntWalk.i64_in _ (by omega)
      obtain ⟨gb, x, hx, hgl, hgo, hc0, hc1, hc2, hc3, hai⟩ := idx45 hrow2 hin (by omega)
      have hne := hn.out x (List.mem_of_getElem? hx)
      obtain ⟨xs, xg, xk, xc⟩ := x
      simp only at hc0 hc1 hne
      have q1 := fun W' => H.eqlH xs s xg g W'
      have q2 : (xs == s && (xg : Int) == (g : Int)) = false := by
        by_cases e : xs = s
        · have : ¬ xg = g := fun e2 => hne ⟨e, e2⟩
          simp [e]; omega
        · simp [e]
      go_upto_region 4 with fail
      go_quiet (fail)
      go_wp2
      exact ⟨⟨j + 1, _, by simp, by omega, rfl⟩, by simp [valOf]; omega⟩
    · have d : decide ((j : Int) < L.length) = false := by simp; omega
      go_wp2
      all_goals go_returns
      exact ⟨rfl, H.Below.drewN hb1 _⟩
theorem oat_yes (w : World) (B b r t : Nat) (vL : Value) (L : List Do) (hb : w.heap[b]? = some (.cells #[.pointer (some ⟨r, 0, none⟩), .pointer (some ⟨t, 0, none⟩), vL] 50 (0, 0))) (hrow : w.ownsRow B 45 4 vL L.length (oCells L)) (hl : L.length ≤ 1000) (s : Int) (g : Nat) (k : Nat) (hk : k < L.length) (x0 : Do) (hkx : L[k]? = some x0) (he : x0.s = s ∧ x0.g = g) (hn : ∀ (j : Nat) (x : Do), j < k → L[j]? = some x → ¬ (x.s = s ∧ x.g = g)) :
    Calls Tryd.prog 18 #[.pointer (some ⟨b, 0, none⟩), .agg #[.int .i64 s, .int .u64 g]] w fun e w' => e = .returned (.int .i64 k) ∧ Below w.heap.size w w' := by
  have hb1 := (Below.refl _ w).alloc (Nat.le_refl _) (.cells #[.int .i64 s, .int .u64 g] 34)
  have hy := heap_alloc_new w (.cells #[.int .i64 s, .int .u64 g] 34)
  have h2 := (hb1.block _ (heap_lt hb)).trans hb
  have hrow2 := row_kept hrow (fun g' hg' => hb1.block _ (by obtain ⟨c, e⟩ := row_cells hrow hg'; exact heap_lt e))
  obtain ⟨p, c, rfl⟩ := H.own_shape hrow
  replace hn : Hid _ := hn
  replace hkx : Hid _ := hkx
  replace he : Hid _ := he
  go_enter Tryd.func18, Tryd.ntmps18
  go_upto_region 1 with fail
  clear hb hrow
  generalize w.alloc (.cells #[.int .i64 s, .int .u64 g] 34) = W at hb1 hy h2 hrow2 ⊢
  have c2 : W.cell? ⟨b, 2, none⟩ = some (.slice p L.length c) := by rw [cell_of h2]; rfl
  have y0 := cell_of hy 0
  have y1 := cell_of hy 1
  simp at y0 y1
  go_wp2
  go_loopw [5] (fun n5 wr => ∃ j m : Nat, n5 = .int .i64 j ∧ j ≤ k ∧ wr = W.drewN m) (fun n5 _ => L.length - (valOf n5).toNat)
  case atStart => exact ⟨0, 0, rfl, by omega, rfl⟩
  case round =>
    obtain ⟨j, m, rfl, hj, hw⟩ := hrel
    rw [hw]; clear hw
    have hin : j < L.length := by omega
    have d : decide ((j : Int) < L.length) = true := by simp; omega
    have e9 : IntKind.i64.wrap ((j : Int) + 1) = (j : Int) + 1 := IntWalk.i64_in _ (by omega)
    obtain ⟨gb, x, hx, hgl, hgo, hc0, hc1, hc2, hc3, hai⟩ := idx45 hrow2 hin (by omega)
    by_cases hjk : j = k
    · have hx2 := hkx.out
      rw [← hjk, hx] at hx2
      obtain rfl := Option.some.inj hx2
      obtain ⟨xs, xg, xk, xc⟩ := x
      have he2 := he.out
      simp only at hc0 hc1 he2
      have q1 := fun W' => H.eqlH xs s xg g W'
      have q2 : (xs == s && (xg : Int) == (g : Int)) = true := by simp [he2.1, he2.2]
      clear he2
      replace hjk : Hid _ := hjk
      go_upto_region 4 with fail
      go_quiet (fail)
      go_wp2
      all_goals go_returns
      all_goals exact ⟨by have := hjk.out; subst this; first | rfl | simp, H.Below.drewN hb1 _⟩
    · have hne := hn.out j x (by omega) hx
      obtain ⟨xs, xg, xk, xc⟩ := x
      simp only at hc0 hc1 hne
      have q1 := fun W' => H.eqlH xs s xg g W'
      have q2 : (xs == s && (xg : Int) == (g : Int)) = false := by
        by_cases e : xs = s
        · have : ¬ xg = g := fun e2 => hne ⟨e, e2⟩
          simp [e]; omega
        · simp [e]
      go_upto_region 4 with fail
      go_quiet (fail)
      go_wp2
      exact ⟨⟨j + 1, _, by simp, by omega, rfl⟩, by simp [valOf]; omega⟩
end Go.Proofs.YtooblonafnlfcaaDoor
