/- Towards the statements of package handle (layer 13): All. -/
import Derived.Test.YtooblonafnlfcaaDoorHE
namespace Go.Proofs.YtooblonafnlfcaaDoor.H
open Go.ChangeShapes Go.WideShapes Go.ChangeAt Go.RowKit
set_option linter.unusedVariables false
set_option linter.unusedSimpArgs false
set_option maxRecDepth 20000
/-- Handles as cells. -/
def hCells : List (Int × Nat) → List Value
  | [] => []
  | (s, g) :: l => .int .i64 s :: .int .u64 g :: hCells l
theorem hCells_len : ∀ l : List (Int × Nat), (hCells l).length = l.length * 2
  | [] => rfl
  | (s, g) :: l => by simp [hCells, hCells_len l]; omega
theorem hCells_app : ∀ l m : List (Int × Nat), hCells (l ++ m) = hCells l ++ hCells m
  | [], m => rfl
  | (s, g) :: l, m => by simp [hCells, hCells_app l m]
theorem hCells_at : ∀ (l : List (Int × Nat)) (j : Nat) (x : Int × Nat), l[j]? = some x → (hCells l)[j * 2]? = some (.int .i64 x.1) ∧ (hCells l)[j * 2 + 1]? = some (.int .u64 x.2)
  | [], j, x, h => by simp at h
  | (s, g) :: l, 0, x, h => by simp at h; subst h; simp [hCells]
  | (s, g) :: l, j + 1, x, h => by
    have := hCells_at l j x (by simpa using h)
    rw [show (j + 1) * 2 = j * 2 + 1 + 1 by omega]
    simpa [hCells] using this
theorem hCells_one : ∀ l : List (Int × Nat), ∀ u ∈ hCells l, u.oneCell' = true
  | [], u, h => by simp [hCells] at h
  | (s, g) :: l, u, h => by
    simp only [hCells, List.mem_cons] at h
    rcases h with rfl | rfl | h
    · rfl
    · rfl
    · exact hCells_one l u h
theorem info_parts {P : Program} {t : TypeId} {z : Value} {a b : Nat} (h : (P.info? t).map (fun i => (i.zero, i.size, i.bytes)) = some (some z, a, b)) : ∃ i, P.info? t = some i ∧ i.zero = some z ∧ i.size = a ∧ i.bytes = b := by
  cases hi : P.info? t with
  | none => rw [hi] at h; cases h
  | some i => rw [hi] at h; simp at h; exact ⟨i, rfl, h.1, h.2.1, h.2.2⟩
theorem info34 : (Tryd.prog.info? 34).map (fun i => (i.zero, i.size, i.bytes)) = some (some (.agg #[.int .i64 0, .int .u64 0]), 2, 16) := by kernel_rfl
theorem news_new (w : World) (cs : List Value) (t : TypeId) (g : Nat) (hg : g = w.heap.size) : ∀ (j : Nat) (u : Value), cs[j]? = some u → (w.alloc (.cells cs.toArray t)).cell? ((⟨g, 0, none⟩ : Addr).add j) = some u := by
  subst hg
  intro j u hu
  rw [show (⟨w.heap.size, 0, none⟩ : Addr).add j = ⟨w.heap.size, j, none⟩ by unfold Addr.add; split <;> simp_all]
  rw [cell_of_row _ _ _ cs.toArray t (0, 0) (heap_alloc_new w _)]
  simpa using hu
theorem own_shape {w : World} {B t sz n : Nat} {v : Value} {xs : List Value} (h : w.ownsRow B t sz v n xs) : ∃ p cap, v = .slice p n cap := by
  rcases h.2 with ⟨e, h⟩ | ⟨g, cap, cur, e, _⟩
  · subst h; exact ⟨_, _, e⟩
  · exact ⟨_, cap, e⟩
theorem row_base {w : World} {B B' t sz n : Nat} {v : Value} {xs : List Value} (h : w.ownsRow B t sz v n xs) (hB : B' ≤ B) : w.ownsRow B' t sz v n xs := by
  refine ⟨h.1, ?_⟩
  rcases h.2 with e | ⟨g, cap, cur, e, h1, h2⟩
  · exact .inl e
  · exact .inr ⟨g, cap, cur, e, by omega, h2⟩
/-- The handles that live, by rising slots. -/
def livL (L : Int → Option Nat) (K : List Int) : List (Int × Nat) := K.map fun k => (k, (L k).getD 0)
set_option maxHeartbeats 2000000 in
theorem all_any (w : World) (B b m1 m2 : Nat) (N : Int → Nat) (L : Int → Option Nat) (n : Nat) (h : Tb w B b m1 m2 N L n) :
    Calls Tryd.prog 45 #[.pointer (some ⟨b, 0, none⟩)] w fun e w' => ∃ (v : Value) (K : List Int), e = .returned v ∧ K.Pairwise (· < ·) ∧ (∀ k, k ∈ K ↔ (L k).isSome = true) ∧ K.length ≤ n ∧ w'.ownsRow w.heap.size 34 2 v K.length (hCells (livL L K)) ∧ Below w.heap.size w w' := by
  have hc := h.cells
  have hn := h.nb
  have c1 : w.cell? ⟨b, 1, none⟩ = some (.map (some m2)) := by rw [cell_of hc]; rfl
  have k1 := made_yes w b m2 c1
  have k2 := keys_any (some m2) w
  have k3 := sorted_any w m2 n _ h.im2 hn
  obtain ⟨i34, hi34, hz0, hz1, hz2⟩ := info_parts info34
  go_enter Tryd.func45, Tryd.ntmps45
  go_upto_region 5 with (first | (go_at_call 58; refine k1.mono ?_; rintro e w' ⟨rfl, hw⟩; rw [hw]; clear hw) | (go_at_call 68; refine k2.mono ?_; rintro e w' ⟨rfl, hw⟩; rw [hw]; clear hw) | (go_at_call 67; refine k3.mono ?_; rintro e W ⟨v, K, rfl, hK, hKn, hrow, hb⟩; obtain ⟨kp, kc, rfl⟩ : ∃ p cap, v = .slice p K.length cap := own_shape hrow))
  have hbw : Below w.heap.size w W := ((Below.refl _ w).alloc (Nat.le_refl _) _).trans (hb.mono (by omega))
  have hT := h.below hbw
  have hmem : ∀ k, k ∈ K ↔ (L k).isSome = true := fun k => by rw [hK.mem k]; cases L k <;> rfl
  have hup := hK.up
  have hS : w.heap.size ≤ W.heap.size := hbw.size
  have kcell : ∀ j x, K[j]? = some x → ∃ g, kp = some ⟨g, 0, none⟩ ∧ g < W.heap.size ∧ W.cell? ⟨g, j, none⟩ = some (.int .i64 x) := by
    intro j x hx
    have hj := (List.getElem?_eq_some_iff.1 hx).1
    rcases hrow.2 with ⟨e, e2⟩ | ⟨g, cap, cur, e, hg1, hg2, hg3, hg4, hg5, hg6⟩
    · omega
    · cases e
      refine ⟨g, rfl, heap_lt hg2, ?_⟩
      rw [hrow.cellAt _ (by omega), List.getElem?_map, hx]
      rfl
  have hnil : K = [] ∨ ∃ g, kp = some ⟨g, 0, none⟩ := by
    cases hKe : K with
    | nil => exact .inl rfl
    | cons x l =>
      obtain ⟨g, e, _⟩ := kcell 0 x (by simp [hKe])
      exact .inr ⟨g, e⟩
  have hTc := hT.cells
  have c1w : W.cell? ⟨b, 1, none⟩ = some (.map (some m2)) := by rw [cell_of hTc]; rfl
  have hbl := heap_lt hTc
  have im := hT.im2
  clear k1 k2 k3 hrow hb hK hc c1
  replace hmem : Hid _ := hmem
  replace hup : Hid _ := hup
  replace kcell : Hid _ := kcell
  replace hnil : Hid _ := hnil
  go_loopw [16, 3] (fun n1 n3 wr => ∃ (j : Nat) (p : Option Addr) (c : Nat), n1 = .int .i64 j ∧ n3 = .slice p j c ∧ j ≤ K.length ∧ wr.ownsRow W.heap.size 34 2 (.slice p j c) j (hCells (livL L (K.take j))) ∧ Below W.heap.size W wr) (fun n1 _ _ => K.length - (valOf n1).toNat)
  case atStart => exact ⟨0, none, 0, rfl, rfl, by omega, ⟨by simp [livL, hCells], .inl ⟨rfl, rfl⟩⟩, Below.refl _ _⟩
  case round =>
    obtain ⟨j, p, c, rfl, rfl, hj, hv, hbr⟩ := hrel
    by_cases hin : j < K.length
    · have d : decide ((j : Int) < K.length) = true := by simp; omega
      have e9 : IntKind.i64.wrap ((j : Int) + 1) = (j : Int) + 1 := IntWalk.i64_in _ (by omega)
      obtain ⟨x, hx⟩ : ∃ x, K[j]? = some x := ⟨K[j], List.getElem?_eq_getElem hin⟩
      obtain ⟨g, hkp, hgl, hgc⟩ := kcell.out j x hx
      obtain ⟨gn, hgn⟩ := Option.isSome_iff_exists.1 ((hmem.out x).1 (List.mem_of_getElem? hx))
      have r1 := (hbr.cell (p := ⟨g, j, none⟩) hgl).trans hgc
      have r2 := (hbr.cell (p := ⟨b, 1, none⟩) hbl).trans c1w
      have l1 := IM.look1 Tryd.underlying102 Tryd.underlying3 (im.keep (hbr.block _ im.lt)) x (zero34 wr)
      rw [hgn] at l1
      simp only [Option.map_some, Option.getD_some, hdV] at l1
      have hstep : hCells (livL L (K.take (j + 1))) = hCells (livL L (K.take j)) ++ [.int .i64 x, .int .u64 gn] := by
        rw [List.take_add_one, hx, livL, List.map_append, hCells_app]
        simp [livL, hCells, hgn]
      replace hstep : Hid _ := hstep
      subst hkp
      clear hgc hx hgn
      go_wp2_with (at_builtin; refine wpList_append_own_at _ rfl _ _ 31 rfl W.heap.size 34 i34 (.agg #[.int .i64 0, .int .u64 0]) 2 16 Tryd.underlying31 hi34 hz0 hz1 hz2 rfl (by decide) (.slice p j c) j (hCells (livL L (K.take j))) rfl (hv.alloc _) _ 1 1 [.int .i64 x, .int .u64 gn] rfl rfl (news_new _ _ _ _ rfl) (by simp [Value.oneCell']) (by simp [maxLen]; omega) (by omega) (by have := hbr.size; simp; omega) ?_; go_loud (intro v' w2 hown hgrow hnil2 hloc; obtain ⟨p', c', rfl⟩ : ∃ p cap, v' = .slice p (j + 1) cap := own_shape hown))
      have hbr2 : Below W.heap.size W w2 := ((hbr.alloc hbr.size _).grown hgrow (by have := hbr.size; simp; omega) (fun k e => (hv.lt k e).1))
      refine ⟨⟨j + 1, p', c', by simp, rfl, by omega, ?_, hbr2⟩, by simp [valOf]; omega⟩
      rw [hstep.out]
      exact hown
    · have d : decide ((j : Int) < K.length) = false := by simp; omega
      obtain rfl : j = K.length := by omega
      go_wp2
      all_goals go_returns
      refine ⟨_, K, rfl, hup.out, hmem.out, hKn, ?_, hbw.trans (hbr.mono hS)⟩
      rw [List.take_length] at hv
      exact row_base hv hS
end Go.Proofs.YtooblonafnlfcaaDoor.H
