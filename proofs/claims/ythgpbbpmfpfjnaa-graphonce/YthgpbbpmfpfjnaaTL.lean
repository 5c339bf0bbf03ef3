/- Towards the statements of package tree (layer 16): Remove. -/
import Derived.Test.YthgpbbpmfpfjnaaTK
namespace Go.Proofs.Ythgpbbpmfpfjnaa.T
open Go.ChangeShapes Go.WideShapes Go.ChangeAt Go.RowKit
set_option linter.unusedVariables false
set_option linter.unusedSimpArgs false
set_option maxRecDepth 20000
theorem trem_nil (k : HKey) (w : World) : Calls Try.prog 115 #[.pointer none, .agg #[.int .i64 k.1, .int .u64 k.2]] w fun e w' => e = .returned (.tuple #[.int .i64 0, .bool false]) ∧ Below w.heap.size w w' := by
  have hb1 := (Below.refl _ w).alloc (Nat.le_refl _) (.cells #[.int .i64 k.1, .int .u64 k.2] 31)
  have yz := heap_alloc_new w (.cells #[.int .i64 k.1, .int .u64 k.2] 31)
  go_enter Try.func115, Try.ntmps115
  go_upto_region 1 with fail
  generalize w.alloc (.cells #[.int .i64 k.1, .int .u64 k.2] 31) = W at hb1 yz ⊢
  have y0 := cell_of yz 0
  have y1 := cell_of yz 1
  simp at y0 y1
  have k1 := index_nil k W
  go_wp2_with (go_at_call 116; refine k1.mono ?_; rintro e w' ⟨rfl, hb2⟩)
  all_goals go_returns
  all_goals exact ⟨rfl, hb1.trans (hb2.mono hb1.size)⟩
theorem trem_no [Inhabited FarT] (w : World) (B b m top : Nat) (M : MN) (T : Tr) (h : Tw w B b m top M T) (k : HKey) (hk : k ∉ T.keys) :
    Calls Try.prog 115 #[.pointer (some ⟨b, 0, none⟩), .agg #[.int .i64 k.1, .int .u64 k.2]] w fun e w' => e = .returned (.tuple #[.int .i64 0, .bool false]) ∧ Below w.heap.size w w' := by
  have hb1 := (Below.refl _ w).alloc (Nat.le_refl _) (.cells #[.int .i64 k.1, .int .u64 k.2] 31)
  have yz := heap_alloc_new w (.cells #[.int .i64 k.1, .int .u64 k.2] 31)
  have h1 := h.keep hb1
  go_enter Try.func115, Try.ntmps115
  go_upto_region 1 with fail
  generalize w.alloc (.cells #[.int .i64 k.1, .int .u64 k.2] 31) = W at hb1 yz h1 ⊢
  have y0 := cell_of yz 0
  have y1 := cell_of yz 1
  simp at y0 y1
  have k1 := index_no W B b m top M T h1 k hk
  go_wp2_with (go_at_call 116; refine k1.mono ?_; rintro e w' ⟨rfl, hb2⟩)
  all_goals go_returns
  all_goals exact ⟨rfl, hb1.trans (hb2.mono hb1.size)⟩
theorem keys_at {T : Tr} {i : Nat} {k : HKey} (h : T.keys[i]? = some k) : ∃ a, T.rows[i]? = some (a, k) := by
  unfold Tr.keys at h
  rw [List.getElem?_map] at h
  obtain ⟨⟨a, k'⟩, e1, e2⟩ := Option.map_eq_some_iff.1 h
  cases e2
  exact ⟨a, e1⟩
/-- The place of a handle. -/
theorem place_at {T : Tr} (hkd : T.keys.Nodup) {i : Nat} {k : HKey} (h : T.keys[i]? = some k) : ∃ c a l r, T = plug c (.nd a k l r) ∧ (bef c).length + l.size = i := by
  obtain ⟨a, ha⟩ := keys_at h
  obtain ⟨c, l, r, e⟩ := place_of (List.mem_of_getElem? ha)
  refine ⟨c, a, l, r, e, ?_⟩
  have hrow : T.rows = bef c ++ (l.rows ++ (a, k) :: r.rows) ++ aft c := by rw [e, rows_plug]; rfl
  have hk2 : T.keys[(bef c).length + l.size]? = some k := by
    unfold Tr.keys
    rw [hrow, List.getElem?_map]
    have e1 : bef c ++ (l.rows ++ (a, k) :: r.rows) ++ aft c = (bef c ++ l.rows) ++ (a, k) :: (r.rows ++ aft c) := by simp
    rw [e1, List.getElem?_append_right (by simp [Tr.size_rows])]
    simp [Tr.size_rows]
  exact (List.getElem?_inj (List.getElem?_eq_some_iff.1 hk2).1 hkd).1 (by rw [hk2, h])
set_option maxHeartbeats 2000000 in
theorem trem_yes [Inhabited FarT] (w : World) (B b m top : Nat) (M : MN) (T : Tr) (h : Tw w B b m top M T) (i : Nat) (k : HKey) (hk : T.keys[i]? = some k) :
    Calls Try.prog 115 #[.pointer (some ⟨b, 0, none⟩), .agg #[.int .i64 k.1, .int .u64 k.2]] w fun e w' => e = .returned (.tuple #[.int .i64 i, .bool true]) ∧ (∃ M' T', Tw w' B b m top M' T' ∧ T'.keys = T.keys.take i ++ T.keys.drop (i + 1)) ∧ Ft B w w' := by
  have hBw := h.size
  have hb1 := (Below.refl _ w).alloc (Nat.le_refl _) (.cells #[.int .i64 k.1, .int .u64 k.2] 31)
  have yz := heap_alloc_new w (.cells #[.int .i64 k.1, .int .u64 k.2] 31)
  have h1 := h.keep hb1
  obtain ⟨c, a, l, r, hT, hi⟩ := place_at h.kd hk
  have hkm : k ∈ T.keys := List.mem_of_getElem? hk
  have hrow : (a, k) ∈ T.rows := by rw [hT, rows_plug]; simp [Tr.rows]
  go_enter Try.func115, Try.ntmps115
  go_upto_region 1 with fail
  generalize w.alloc (.cells #[.int .i64 k.1, .int .u64 k.2] 31) = W at hb1 yz h1 ⊢
  have y0 := cell_of yz 0
  have y1 := cell_of yz 1
  simp at y0 y1
  have k1 := index_yes W B b m top M T h1 k c a l r hT
  rw [hi] at k1
  replace hT : Hid (T = plug c (.nd a k l r)) := hT
  replace hi : Hid _ := hi
  replace hk : Hid _ := hk
  go_upto_region 3 with (go_at_call 116; go_loud (refine k1.mono ?_; rintro e w2 ⟨rfl, hb2⟩))
  have h2 := h1.keep hb2
  have yz2 := (hb2.block _ (heap_lt yz)).trans yz
  have hb3 := hb1.trans (hb2.mono hb1.size)
  clear k1 y0 y1
  have c0 := h2.c0
  have y0 := cell_of yz2 0
  have y1 := cell_of yz2 1
  simp at y0 y1
  obtain ⟨v, hv, -, hv2⟩ := h2.look k
  obtain rfl : v = .pointer (some ⟨a, 0, none⟩) := by
    rcases hv2 with ⟨_, e⟩ | ⟨a', ha, e⟩
    · exact absurd hkm e
    · have hkd := h.kd
      have : a' = a := by
        unfold Tr.keys at hkd
        obtain ⟨i, hi⟩ := List.getElem?_of_mem ha
        obtain ⟨j, hj⟩ := List.getElem?_of_mem hrow
        have hlt := (List.getElem?_eq_some_iff.1 hi).1
        have := (List.getElem?_inj (l := T.rows.map (·.2)) (by simpa using hlt) hkd).1 (by rw [List.getElem?_map, List.getElem?_map, hi, hj]; rfl : (T.rows.map (·.2))[i]? = (T.rows.map (·.2))[j]?)
        subst this
        rw [hi] at hj
        exact congrArg Prod.fst (Option.some.inj hj)
      rw [e, this]
  have q1 := hv w2.drew rfl
  have kC := cut_any w2.drew B b m top M T h2.drew c a k l r hT.out
  rw [hi.out] at kC
  clear hv2
  go_region_held3 (fun w' => w'.cell? ⟨b, 0, none⟩ = some (.map (some m)) ∧ w'.cell? ⟨w.heap.size, 0, none⟩ = some (.int .i64 k.1) ∧ w'.cell? ⟨w.heap.size, 1, none⟩ = some (.int .u64 k.2) ∧ (Instr.lookup 105 (.map (some m)) (.agg #[.int .i64 k.1, .int .u64 k.2]) false).run Try.prog w' = .ok (.pointer (some ⟨a, 0, none⟩)) w') ((refine ⟨?_, ?_, ?_, ?_⟩ <;> repeat (with_reducible (first | assumption | apply cell_dr | exact hv _ rfl)))) (first | (go_at_call 117; go_loud (refine kC.mono ?_; rintro e w3 ⟨rfl, hp3⟩; obtain ⟨R', hD, hnd, hks, nn, F, hF, hFk, hF2⟩ := hp3.ex; have hc3 := hp3.ft.keep _ _ _ h2.drew.cells (by decide); have yz3 := hp3.ft.keep _ _ _ yz2 (by decide); have c03 : w3.cell? ⟨b, 0, none⟩ = some (.map (some m)) := (by rw [cell_of hc3]; rfl); have y03 : w3.cell? ⟨w.heap.size, 0, none⟩ = some (.int .i64 k.1) := (by rw [cell_of yz3]; rfl); have y13 : w3.cell? ⟨w.heap.size, 1, none⟩ = some (.int .u64 k.2) := (by rw [cell_of yz3]; rfl); have hl3 : (Instr.lookup 105 (.map (some m)) (.agg #[.int .i64 k.1, .int .u64 k.2]) false).run Try.prog w3 = .ok (.pointer (some ⟨a, 0, none⟩)) w3 := (by have := HM.look1 Try.underlying105 hF k (z := .pointer none) (w := w3) (by kernel_rfl); rw [hFk] at this; exact this))))
  have hF3 : Ft B w w3 := (Ft.of hb3 hBw).drew.trans hp3.ft
  clear kC c0 y0 y1 q1 hv
  obtain ⟨w4, p4, i4, t4⟩ := HM.del (w := w3.drew) Try.underlying105 (hF.keep rfl) k 0
  unfold hK at p4
  go_upto_region 4 with fail
  go_region
  have hF4 : Ft B w w4 := hF3.drew.trans (Ft.turn t4 h.mB h.mY (by have := hF3.bel.size; show B ≤ w3.heap.size; omega))
  have hD4 : Done w4 B top R' := by
    obtain ⟨M', T', d1, d2, d3, d4⟩ := hD
    exact ⟨M', T', Ms.turn (w := w3.drew) d1 t4, d2, d3, d4⟩
  have hc4 := turn_block t4 hc3 (fun _ _ q => by cases q)
  have hlK : R'.length ≤ 2000 := by
    have := congrArg List.length hks
    have := h.len
    have := T.keys_len
    simp at *
    omega
  have hkd := h.kd
  have hnk : (T.keys.take i ++ T.keys.drop (i + 1)).Nodup ∧ k ∉ T.keys.take i ++ T.keys.drop (i + 1) := by
    have hil := (List.getElem?_eq_some_iff.1 hk.out).1
    have e : T.keys = T.keys.take i ++ k :: T.keys.drop (i + 1) := by
      have : T.keys[i] = k := (List.getElem?_eq_some_iff.1 hk.out).2
      rw [← this, ← List.drop_eq_getElem_cons hil, List.take_append_drop]
    rw [e] at hkd
    have := List.perm_middle.nodup_iff.1 hkd
    rw [List.nodup_cons] at this
    exact ⟨this.2, this.1⟩
  obtain ⟨M5, T5, hT5, hr5⟩ := Tw.of_done (b := b) (m := m) hD4 hc4 h.bB h.mB ⟨nn, updH F k none, i4, fun h' v => by
    by_cases e : h' = k
    · subst e
      rw [updH_self]
      constructor
      · intro e; cases e
      · rintro ⟨a, ha, rfl⟩
        exact absurd (by rw [← hks]; exact List.mem_map.2 ⟨_, ha, rfl⟩) hnk.2
    · rw [updH_ne _ _ e]
      exact hF2 h' v e⟩ hnd (by rw [hks]; exact hnk.1) hlK h.bY h.mY (Nat.le_trans h.topY hF4.bel.size)
  have hfin : (∃ M' T', Tw w4 B b m top M' T' ∧ T'.keys = T.keys.take i ++ T.keys.drop (i + 1)) ∧ Ft B w w4 := ⟨⟨M5, T5, hT5, by rw [← hks, ← hr5]; rfl⟩, hF4⟩
  clear p4 i4 t4 hF3 hF4 hD4 hc4 hnk hT5 hr5 hD hks
  go_wp2
  all_goals go_returns
  all_goals exact ⟨rfl, hfin⟩
end Go.Proofs.Ythgpbbpmfpfjnaa.T
