/- Towards HandlePlays: the document's gen. -/
import Derived.Test.YtooblonafnlfcaaDoorRC
namespace Go.Proofs.YtooblonafnlfcaaDoor.H
open Go.ChangeShapes Go.WideShapes Go.ChangeAt Go.RowKit
set_option linter.unusedVariables false
set_option linter.unusedSimpArgs false
set_option maxRecDepth 20000
set_option maxHeartbeats 2000000 in
theorem gen_no (w : World) (B r : Nat) (X T : List HKey) (vX vT : Value) (h : Rf w B r X T vX vT) (s : Int) (hn : ∀ x ∈ T, x.1 ≠ s) (hl1 : T.length + 1 ≤ 1000) :
    Calls Tryd.prog 61 #[.pointer (some ⟨r, 0, none⟩), .int .i64 s] w fun e w' => e = .returned (.int .u64 1) ∧ (∃ vT', Rf w' B r X (T ++ [(s, 1)]) vX vT' ∧ ∀ g, vT'.ownBlock = some g → vT.ownBlock = some g ∨ w.heap.size ≤ g) ∧ Fx B r vX vT w w' := by
  have hl := h.lenT
  have hB := h.size
  obtain ⟨p, c, rfl⟩ := own_shape h.rowT
  have c1 : w.cell? ⟨r, 1, none⟩ = some (.slice p T.length c) := by rw [cell_of h.cells]; rfl
  obtain ⟨i34, hi34, hz0, hz1, hz2⟩ := info_parts info34
  replace hn : Hid _ := hn
  go_enter Tryd.func61, Tryd.ntmps61
  go_wp2
  go_loopw [5] (fun n5 wr => ∃ j : Nat, n5 = .int .i64 j ∧ j ≤ T.length ∧ wr = w) (fun n5 _ => T.length - (valOf n5).toNat)
  case atStart => exact ⟨0, rfl, by omega, rfl⟩
  case round =>
    obtain ⟨j, rfl, hj, hw⟩ := hrel
    rw [hw]; clear hw
    by_cases hin : j < T.length
    · have d : decide ((j : Int) < T.length) = true := by simp; omega
      have e9 : IntKind.i64.wrap ((j : Int) + 1) = (j : Int) + 1 := IntWalk.i64_in _ (by omega)
      obtain ⟨g, x, hx, hgl, hgo, hc0, hc1, hai⟩ := idx34 h.rowT hin (by omega)
      have hne := hn.out x (List.mem_of_getElem? hx)
      obtain ⟨xs, xg⟩ := x
      simp only at hc0 hc1 hne
      have q : (xs == s) = false := by simp [hne]
      go_wp2
      exact ⟨⟨j + 1, by simp, by omega, by trivial⟩, by simp [valOf]; omega⟩
    · have d : decide ((j : Int) < T.length) = false := by simp; omega
      have hr := heap_lt h.cells
      have hnr := h.nb
      go_upto_region 10 with (at_builtin; refine wpList_append_own_at _ rfl _ _ 31 rfl B 34 i34 (.agg #[.int .i64 0, .int .u64 0]) 2 16 Tryd.underlying31 hi34 hz0 hz1 hz2 rfl (by decide) (.slice p T.length c) T.length (hCells T) rfl (h.rowT.alloc _) _ 1 1 [.int .i64 s, .int .u64 1] rfl rfl (news_new _ _ _ _ rfl) (by simp [Value.oneCell']) (by simp [maxLen]; omega) (by omega) (by simp; omega) ?_; go_loud (intro v2 w2 hown2 hgrow2 hnil2 hloc2; obtain ⟨p2, c2, rfl⟩ : ∃ p cap, v2 = .slice p (T.length + 1) cap := own_shape hown2; have hr2 : w2.heap[r]? = some (.cells #[vX, .slice p T.length c] 54 (0, 0)) := (by rw [hgrow2.block r (by simp; omega) (fun e => hnr.2 e.symm)]; exact (Below.heap_alloc _ _ _ hr).trans h.cells); have c02 := cell_of hr2 1; have f02 := froz_of hr2 1; simp at c02))
      have hk2 : ∀ i, i < w.heap.size → some i ≠ (Value.slice p T.length c).ownBlock → w2.heap[i]? = w.heap[i]? := fun i hi hne => (hgrow2.block i (by simp; omega) hne).trans (Below.heap_alloc _ _ _ hi)
      have hsz : w.heap.size + 1 ≤ w2.heap.size := by have := hgrow2.size; simpa using this
      have hfr2 : ∀ g, (Value.slice p2 (T.length + 1) c2).ownBlock = some g → (Value.slice p T.length c).ownBlock = some g ∨ w.heap.size ≤ g := fun g hg => by
        rcases hloc2 with e | e
        · exact .inl (by rw [← e]; exact hg)
        · rw [hg] at e
          simp at e
          exact .inr (by omega)
      have hrT : (Value.slice p2 (T.length + 1) c2).ownBlock ≠ some r := fun e => by
        rcases hfr2 r e with e' | e'
        · exact hnr.2 e'
        · omega
      have hR : Rf (w2.setCell ⟨r, 1, none⟩ (.slice p2 (T.length + 1) c2)) B r X (T ++ [(s, 1)]) vX (.slice p2 (T.length + 1) c2) := by
        refine ⟨?_, h.rB, row_other (row_kept h.rowX fun g hg => hk2 _ (h.rowX.lt g hg).2 (fun e => h.apart g hg e.symm)) hnr.1, row_other ?_ hrT, fun g hg e => ?_, h.lenX, by simpa using hl1⟩
        · have := heap_setCell_same w2 r 1 _ _ (.slice p2 (T.length + 1) c2) hr2
          simpa using this
        · rw [hCells_app, List.length_append]
          simpa [hCells] using hown2
        · rcases hfr2 g e with e' | e'
          · exact h.apart g hg e'
          · have := (h.rowX.lt g hg).2; omega
      have hF : Fx B r vX (.slice p T.length c) w (w2.setCell ⟨r, 1, none⟩ (.slice p2 (T.length + 1) c2)) := by
        have hbel : Below B w w2 := ((Below.refl B w).alloc hB _).grown hgrow2 (by simp; omega) (fun k e => (h.rowT.lt k e).1)
        exact ⟨hbel.setCell h.rB _, fun i hi h1' _ h3' => by rw [Below.heap_setCell _ _ _ _ (by simpa using h1')]; exact hk2 i hi h3'⟩
      clear c02 f02
      generalize w2.setCell ⟨r, 1, none⟩ (.slice p2 (T.length + 1) c2) = W4 at hR hF ⊢
      go_wp2
      all_goals go_returns
      all_goals exact ⟨rfl, ⟨_, hR, hfr2⟩, hF⟩
theorem Nt.yes {T : List HKey} {N : Int → Nat} (h : Nt T N) {k : Nat} {s : Int} {g : Nat} (hk : T[k]? = some (s, g)) : N s = g ∧ (∀ (j : Nat) (x : HKey), j < k → T[j]? = some x → x.1 ≠ s) ∧ Nt (T.set k (s, g + 1)) (updN N s (g + 1)) := by
  have hkl := (List.getElem?_eq_some_iff.1 hk).1
  have h1 := h.ins _ (List.mem_of_getElem? hk)
  have huniq : ∀ (j : Nat) (x : HKey), T[j]? = some x → x.1 = s → j = k := fun j x hx e => by
    have hjl := (List.getElem?_eq_some_iff.1 hx).1
    refine (List.getElem?_inj (l := T.map (·.1)) (by simpa using hjl) h.nd).1 ?_
    rw [List.getElem?_map, List.getElem?_map, hx, hk]
    simp [e]
  refine ⟨h1, fun j x hj hx e => by have := huniq j x hx e; omega, ⟨fun x hx => ?_, fun s' hs' => ?_, ?_⟩⟩
  · obtain ⟨j, hj⟩ := List.getElem?_of_mem hx
    by_cases e : j = k
    · subst e
      rw [List.getElem?_set_self hkl] at hj
      obtain rfl := Option.some.inj hj
      simp [updN]
    · rw [List.getElem?_set_ne (Ne.symm e)] at hj
      have hne : x.1 ≠ s := fun e' => e (huniq j x hj e')
      simp only [updN, if_neg hne]
      exact h.ins x (List.mem_of_getElem? hj)
  · have hne : s' ≠ s := fun e => hs' (s, g + 1) (List.mem_of_getElem? (List.getElem?_set_self hkl)) e.symm
    simp only [updN, if_neg hne]
    refine h.out s' fun x hx e => ?_
    obtain ⟨j, hj⟩ := List.getElem?_of_mem hx
    by_cases e2 : j = k
    · subst e2
      rw [hk] at hj
      obtain rfl := Option.some.inj hj
      exact hne e.symm
    · exact hs' x (List.mem_of_getElem? (by rw [List.getElem?_set_ne (Ne.symm e2)]; exact hj)) e
  · have : (T.set k (s, g + 1)).map (·.1) = T.map (·.1) := by
      rw [List.map_set]
      refine List.ext_getElem? fun j => ?_
      by_cases e : j = k
      · subst e
        rw [List.getElem?_set_self (by simpa using hkl), List.getElem?_map, hk]; rfl
      · rw [List.getElem?_set_ne (Ne.symm e)]
    rw [this]
    exact h.nd
theorem Nt.new {T : List HKey} {N : Int → Nat} (h : Nt T N) {s : Int} (hn : ∀ x ∈ T, x.1 ≠ s) : N s = 0 ∧ Nt (T ++ [(s, 1)]) (updN N s 1) := by
  refine ⟨h.out s hn, ⟨fun x hx => ?_, fun s' hs' => ?_, ?_⟩⟩
  · simp only [List.mem_append, List.mem_singleton] at hx
    rcases hx with hx | rfl
    · simp only [updN, if_neg (hn x hx)]; exact h.ins x hx
    · simp [updN]
  · have hne : s' ≠ s := fun e => hs' (s, 1) (by simp) e.symm
    simp only [updN, if_neg hne]
    exact h.out s' fun x hx => hs' x (by simp [hx])
  · rw [List.map_append]
    refine List.nodup_append.2 ⟨h.nd, by simp, fun a ha b hb => ?_⟩
    simp at hb
    subst hb
    obtain ⟨x, hx, rfl⟩ := List.mem_map.1 ha
    exact hn x hx
theorem gen_any (w : World) (B r : Nat) (X T : List HKey) (vX vT : Value) (h : Rf w B r X T vX vT) (N : Int → Nat) (hN : Nt T N) (s : Int) (hl1 : T.length + 1 ≤ 1000) (hNs : N s ≤ 1000000) :
    Calls Tryd.prog 61 #[.pointer (some ⟨r, 0, none⟩), .int .i64 s] w fun e w' => e = .returned (.int .u64 ((N s : Int) + 1)) ∧ (∃ T' vT', Rf w' B r X T' vX vT' ∧ Nt T' (updN N s (N s + 1)) ∧ T'.length ≤ T.length + 1 ∧ ∀ g, vT'.ownBlock = some g → vT.ownBlock = some g ∨ w.heap.size ≤ g) ∧ Fx B r vX vT w w' := by
  by_cases hs : ∃ x ∈ T, x.1 = s
  · obtain ⟨⟨s', g⟩, hx, rfl⟩ := hs
    obtain ⟨k, hk⟩ := List.getElem?_of_mem hx
    obtain ⟨h1, h2, h3⟩ := hN.yes hk
    simp only at h1 h2 h3 ⊢
    rw [h1]
    exact (gen_yes w B r X T vX vT h s' k g hk h2 (by simp only at hNs; omega)).mono fun e w' ⟨a1, a2, a3⟩ => ⟨a1, ⟨_, _, a2, h3, by simp, fun g hg => .inl hg⟩, a3⟩
  · have hn : ∀ x ∈ T, x.1 ≠ s := fun x hx e => hs ⟨x, hx, e⟩
    obtain ⟨h1, h2⟩ := hN.new hn
    rw [h1]
    exact (gen_no w B r X T vX vT h s hn hl1).mono fun e w' ⟨a1, ⟨vT', a2, a4⟩, a3⟩ => ⟨a1, ⟨_, vT', a2, h2, by simp, a4⟩, a3⟩
end Go.Proofs.YtooblonafnlfcaaDoor.H
