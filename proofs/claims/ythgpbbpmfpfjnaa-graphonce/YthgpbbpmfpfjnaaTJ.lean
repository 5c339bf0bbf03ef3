/- Towards the statements of package tree (layer 16): Insert. -/
import Derived.Test.YthgpbbpmfpfjnaaTI
namespace Go.Proofs.Ythgpbbpmfpfjnaa.T
open Go.ChangeShapes Go.WideShapes Go.ChangeAt Go.RowKit
set_option linter.unusedVariables false
set_option linter.unusedSimpArgs false
set_option maxRecDepth 20000
/-- The node over a place at which nothing hangs. -/
theorem Path.over0 {M : MN} {top : Nat} {c : List Fra} {p0 : Option Nat} (h : Path M top p0 c) (hnd : (top :: adF c).Nodup) :
    ∃ O : Nd, M (hdF top c) = some O ∧ ∀ (M' : MN) (p : Option Nat), M' (hdF top c) = some (O.setKid (sdF c) p) → (∀ a ∈ top :: adF c, a ≠ hdF top c → M' a = M a) → Path M' top p c := by
  cases c with
  | nil => exact ⟨_, h, fun M' p e _ => e⟩
  | cons f c =>
    obtain ⟨⟨z, d, h1⟩, h2, h3⟩ := h
    refine ⟨_, h1, fun M' p e e2 => ?_⟩
    simp only [adF, List.nodup_cons, List.mem_cons, List.mem_append, not_or] at hnd
    refine ⟨⟨z, d, ?_⟩, h2.frame fun a ha => e2 a (by simp [adF, ha]) ?_, h3.frame fun a ha => e2 a ?_ ?_⟩
    · simp only [hdF, sdF] at e
      rw [e]
      cases f.s <;> simp [mkN, Nd.setKid] <;> (cases c <;> rfl)
    · rintro rfl; exact hnd.2.1.1 ha
    · rcases List.mem_cons.1 ha with rfl | ha
      · simp
      · simp [adF, ha]
    · rintro rfl
      rcases List.mem_cons.1 ha with q | q
      · exact hnd.1.1 q.symm
      · exact hnd.2.1.2 q
theorem hdF_adF (top : Nat) (c : List Fra) (h : (top :: adF c).Nodup) : True := trivial
/-- The nodes of a tree lie in memory. -/
theorem Sub.lt {M : MN} {t : Tr} {o : Option Nat} (h : Sub M o t) {a : Nat} (ha : a ∈ t.adds) : ∃ x, M a = some x := by
  obtain ⟨⟨a', k⟩, hx, rfl⟩ := List.mem_map.1 ha
  obtain ⟨x, e, _⟩ := h.all a' k hx
  exact ⟨x, e⟩
theorem Ms.lt [Inhabited FarT] {w : World} {B : Nat} {M : MN} (h : Ms w B M) {a : Nat} {x : Nd} (e : M a = some x) : a < w.heap.size := heap_lt (h.at e)
/-- A tree anew, once it is levelled. -/
theorem Tw.of_done [Inhabited FarT] {w : World} {B b m top : Nat} {R : List (Nat × HKey)} (hD : Done w B top R) (hc : w.heap[b]? = some (.cells #[.map (some m), .pointer (some ⟨top, 0, none⟩)] 111 (0, 0))) (bB : B ≤ b) (mB : B ≤ m) (hm : ∃ nn F, HM w m nn F ∧ ∀ h v, F h = some v ↔ ∃ a, (a, h) ∈ R ∧ v = .pointer (some ⟨a, 0, none⟩)) (nd : (top :: R.map (·.1)).Nodup) (kd : (R.map (·.2)).Nodup) (hl : R.length ≤ 2000) (bY : ¬ FY b) (mY : ¬ FY m) (tY : FT ≤ w.heap.size) :
    ∃ M T, Tw w B b m top M T ∧ T.rows = R := by
  obtain ⟨M, T, h1, h2, h3, h4⟩ := hD
  subst h3
  exact ⟨M, T, ⟨hc, bB, mB, h1, h2, h4, hm, nd, kd, by rw [← Tr.size_rows]; exact hl, bY, mY, tY⟩, rfl⟩
theorem tins_nil (i : Int) (k : HKey) (w : World) : Calls Try.prog 96 #[.pointer none, .int .i64 i, .agg #[.int .i64 k.1, .int .u64 k.2]] w fun e w' => e = .returned (.int .i64 1) ∧ Below w.heap.size w w' := by
  have hb1 := (Below.refl _ w).alloc (Nat.le_refl _) (.cells #[.int .i64 k.1, .int .u64 k.2] 31)
  go_enter Try.func96, Try.ntmps96
  go_upto_region 1 with fail
  generalize w.alloc (.cells #[.int .i64 k.1, .int .u64 k.2] 31) = W at hb1 ⊢
  have k1 := made_nil W
  go_wp2_with (go_at_call 98; refine k1.mono ?_; rintro e w' ⟨rfl, hw⟩; rw [hw]; clear hw)
  all_goals go_returns
  all_goals exact ⟨rfl, hb1⟩
theorem tins_arg [Inhabited FarT] (w : World) (B b m top : Nat) (M : MN) (T : Tr) (h : Tw w B b m top M T) (i : Int) (hi : i < 0 ∨ (T.size : Int) < i) (k : HKey) :
    Calls Try.prog 96 #[.pointer (some ⟨b, 0, none⟩), .int .i64 i, .agg #[.int .i64 k.1, .int .u64 k.2]] w fun e w' => e = .returned (.int .i64 2) ∧ Below w.heap.size w w' := by
  have hb1 := (Below.refl _ w).alloc (Nat.le_refl _) (.cells #[.int .i64 k.1, .int .u64 k.2] 31)
  have h1 := h.keep hb1
  go_enter Try.func96, Try.ntmps96
  go_upto_region 1 with fail
  generalize w.alloc (.cells #[.int .i64 k.1, .int .u64 k.2] 31) = W at hb1 h1 ⊢
  have k1 := made_yes W b m h1.c0
  have k2 := len_any W B b m top M T h1
  by_cases h0 : i < 0
  · have d1 : decide (i < 0) = true := by simpa using h0
    go_wp2_with (go_at_call 98; refine k1.mono ?_; rintro e w' ⟨rfl, hw⟩; rw [hw]; clear hw)
    all_goals go_returns
    all_goals exact ⟨rfl, hb1⟩
  · have d1 : decide (i < 0) = false := by simpa using h0
    have d2 : decide ((T.size : Int) < i) = true := decide_eq_true (by omega)
    have d3 : decide (i > (T.size : Int)) = true := decide_eq_true (by omega)
    go_wp2_with (first | (go_at_call 98; refine k1.mono ?_; rintro e w' ⟨rfl, hw⟩; rw [hw]; clear hw) | (go_at_call 97; refine k2.mono ?_; rintro e w' ⟨rfl, hw⟩; rw [hw]; clear hw))
    all_goals go_returns
    all_goals exact ⟨rfl, hb1⟩
theorem tins_in [Inhabited FarT] (w : World) (B b m top : Nat) (M : MN) (T : Tr) (h : Tw w B b m top M T) (i : Int) (hi : 0 ≤ i) (hi2 : i ≤ (T.size : Int)) (k : HKey) (hk : k ∈ T.keys) :
    Calls Try.prog 96 #[.pointer (some ⟨b, 0, none⟩), .int .i64 i, .agg #[.int .i64 k.1, .int .u64 k.2]] w fun e w' => e = .returned (.int .i64 7) ∧ Below w.heap.size w w' := by
  have hb1 := (Below.refl _ w).alloc (Nat.le_refl _) (.cells #[.int .i64 k.1, .int .u64 k.2] 31)
  have h1 := h.keep hb1
  have yz := heap_alloc_new w (.cells #[.int .i64 k.1, .int .u64 k.2] 31)
  go_enter Try.func96, Try.ntmps96
  go_upto_region 1 with fail
  generalize w.alloc (.cells #[.int .i64 k.1, .int .u64 k.2] 31) = W at hb1 h1 yz ⊢
  have k1 := made_yes W b m h1.c0
  have k2 := len_any W B b m top M T h1
  have d1 : decide (i < 0) = false := decide_eq_false (by omega)
  have d2 : decide ((T.size : Int) < i) = false := decide_eq_false (by omega)
  have d3 : decide (i > (T.size : Int)) = false := decide_eq_false (by omega)
  have c0 := h1.c0
  have y0 := cell_of yz 0
  have y1 := cell_of yz 1
  simp at y0 y1
  obtain ⟨v, -, hv, -⟩ := h1.look k
  rw [decide_eq_true hk] at hv
  have q1 := fun nq => hv (W.drewN nq) rfl
  clear hv
  go_upto_region 5 with (first | (go_at_call 98; refine k1.mono ?_; rintro e w' ⟨rfl, hw⟩; rw [hw]; clear hw) | (go_at_call 97; refine k2.mono ?_; rintro e w' ⟨rfl, hw⟩; rw [hw]; clear hw))
  go_quiet (fail)
  go_wp2
  all_goals go_returns
  all_goals exact ⟨rfl, Below.drewN hb1 _⟩
set_option maxHeartbeats 2000000 in
theorem tins_ok [Inhabited FarT] (w : World) (B b m top : Nat) (M : MN) (T : Tr) (h : Tw w B b m top M T) (i : Nat) (hi : i ≤ T.size) (k : HKey) (hk : k ∉ T.keys) (hl : T.size + 1 ≤ 2000) :
    Calls Try.prog 96 #[.pointer (some ⟨b, 0, none⟩), .int .i64 i, .agg #[.int .i64 k.1, .int .u64 k.2]] w fun e w' => e = .returned (.int .i64 0) ∧ (∃ M' T', Tw w' B b m top M' T' ∧ T'.keys = T.keys.take i ++ k :: T.keys.drop i) ∧ Ft B w w' := by
  have hBw := h.size
  have hb1 := (Below.refl _ w).alloc (Nat.le_refl _) (.cells #[.int .i64 k.1, .int .u64 k.2] 31)
  have h1 := h.keep hb1
  have yz := heap_alloc_new w (.cells #[.int .i64 k.1, .int .u64 k.2] 31)
  go_enter Try.func96, Try.ntmps96
  go_upto_region 1 with fail
  generalize w.alloc (.cells #[.int .i64 k.1, .int .u64 k.2] 31) = W at hb1 h1 yz ⊢
  have k1 := made_yes W b m h1.c0
  have k2 := len_any W B b m top M T h1
  have d1 : decide ((i : Int) < 0) = false := decide_eq_false (by omega)
  have d2 : decide ((T.size : Int) < (i : Int)) = false := decide_eq_false (by omega)
  have d3 : decide ((i : Int) > (T.size : Int)) = false := decide_eq_false (by omega)
  have c0 := h1.c0
  have y0 := cell_of yz 0
  have y1 := cell_of yz 1
  simp at y0 y1
  obtain ⟨v, -, hv, -⟩ := h1.look k
  rw [decide_eq_false hk] at hv
  have q1 := fun nq => hv (W.drewN nq) rfl
  clear hv
  go_upto_region 5 with (first | (go_at_call 98; refine k1.mono ?_; rintro e w' ⟨rfl, hw⟩; rw [hw]; clear hw) | (go_at_call 97; refine k2.mono ?_; rintro e w' ⟨rfl, hw⟩; rw [hw]; clear hw))
  go_quiet (fail)
  replace h1 := h1.drewN nq
  replace hb1 := Below.drewN hb1 nq
  replace yz : (W.drewN nq).heap[w.heap.size]? = _ := yz
  clear q1 k1 k2 c0 y0 y1 d1 d2 d3
  generalize W.drewN nq = W at hb1 h1 yz ⊢
  have y0 := cell_of yz 0
  have y1 := cell_of yz 1
  simp at y0 y1
  go_upto_region 9 with fail
  have hb2 := (Below.refl _ W).alloc (Nat.le_refl _) (.cells (ndC ⟨k, none, none, none, 0, 0⟩) 109)
  have h2 := h1.keep hb2
  have hB2 := h1.size
  have zz := heap_alloc_new W (.cells (ndC ⟨k, none, none, none, 0, 0⟩) 109)
  have hz2 := heap_al yz (.cells (ndC ⟨k, none, none, none, 0, 0⟩) 109)
  have hbw := hb1.trans (hb2.mono hb1.size)
  have hlt : ∀ a x, M a = some x → a < W.heap.size := fun a x e => h1.ms.lt e
  clear y0 y1
  generalize hW2 : W.alloc (.cells (ndC ⟨k, none, none, none, 0, 0⟩) 109) = W2 at h2 zz hz2 hbw
  simp only [ndC, pO] at hW2
  simp only [Int.natCast_zero, Int.ofNat_zero, Int.cast_ofNat_Int] at hW2
  simp only [hW2]
  clear hW2 hb2
  have hY2 : ¬ FY W.heap.size := fun q => by have := q.lt; have := h1.topY; omega
  generalize W.heap.size = n at zz hlt hB2 hY2 ⊢
  clear h1 yz hb1
  have hM3 : Ms W2 B (upN M n ⟨k, none, none, none, 0, 0⟩) := by
    intro a x hx
    by_cases e : a = n
    · subst e
      rw [upN_self] at hx
      cases hx
      exact ⟨⟨hB2, hY2⟩, zz⟩
    · rw [upN_ne _ _ e] at hx
      exact h2.ms a x hx
  have kg := gap_any W2 B b m top M T h2 i hi
  go_upto_region 10 with (go_at_call 102; go_loud (refine kg.mono ?_; rintro e w' ⟨c, rfl, hT, hbi, hw⟩; rw [hw]; clear hw))
  replace hT : Hid (T = plug c .nil) := hT
  replace hbi : Hid _ := hbi
  clear kg
  have hnd := h2.nd
  have hx0 := h2.wh
  rw [hT.out] at hx0
  obtain ⟨hP0, -⟩ := hx0.open
  have hp := (adds_plug c .nil).symm
  rw [← hT.out] at hp
  simp only [Tr.adds, Tr.rows, List.map_nil, List.nil_append] at hp
  have hnd1 := hnd
  rw [List.nodup_cons] at hnd1
  have hc : (top :: adF c).Nodup := List.nodup_cons.2 ⟨fun q => hnd1.1 (hp.mem_iff.1 q), (hp.nodup_iff).2 hnd1.2⟩
  have hmem : ∀ a ∈ top :: adF c, ∃ x, M a = some x := fun a ha => by
    rcases List.mem_cons.1 ha with rfl | ha
    · exact ⟨_, h2.wh.top'⟩
    · exact h2.wh.sub.lt (hp.mem_iff.1 ha)
  have hnc : n ∉ top :: adF c := fun q => by
    obtain ⟨x, hx⟩ := hmem n q
    have := hlt n x hx
    omega
  have hntop : ∀ a ∈ top :: adF c, a ≠ n := fun a ha e => hnc (e ▸ ha)
  obtain ⟨O, hO, hPn⟩ := hP0.over0 hc
  have hom := hdF_mem top c
  have hne := hntop _ hom
  have kh := hang_some W2 B _ hM3 (hdF top c) n hne O ⟨k, none, none, none, 0, 0⟩ (by rw [upN_ne _ _ hne]; exact hO) (upN_self _ _ _) (sdF c)
  go_upto_region 11 with (go_at_call 103; go_loud (refine kh.mono ?_; rintro e w4 ⟨rfl, hM4, hF4⟩))
  clear kh
  have hP4 : Path (upN (upN (upN M n ⟨k, none, none, none, 0, 0⟩) (hdF top c) (O.setKid (sdF c) (some n))) n (Nd.over ⟨k, none, none, none, 0, 0⟩ (some (hdF top c)))) top (some n) c :=
    hPn _ _ (by rw [upN_ne _ _ hne, upN_self]) (fun a ha q => by rw [upN_ne _ _ (hntop a ha), upN_ne _ _ q, upN_ne _ _ (hntop a ha)])
  have hn4 : (upN (upN (upN M n ⟨k, none, none, none, 0, 0⟩) (hdF top c) (O.setKid (sdF c) (some n))) n (Nd.over ⟨k, none, none, none, 0, 0⟩ (some (hdF top c)))) n = some ⟨k, some (hdF top c), none, none, 0, 0⟩ := by rw [upN_self]; rfl
  generalize upN (upN (upN M n ⟨k, none, none, none, 0, 0⟩) (hdF top c) (O.setKid (sdF c) (some n))) n (Nd.over ⟨k, none, none, none, 0, 0⟩ (some (hdF top c))) = M4 at hM4 hP4 hn4
  have hcells := hF4.keep b _ h2.cells (by intro cs e; cases e)
  have hz4 := hF4.keep _ _ hz2 (by intro cs e; cases e)
  obtain ⟨nn, F, hF, hF2⟩ := h2.map
  have hmap4 : HM w4 m nn F := by
    obtain ⟨es, cl, e1, e2⟩ := hF
    exact ⟨es, cl, hF4.keep m _ e1 (by intro cs e; cases e), e2⟩
  obtain ⟨W5, p5, i5, t5⟩ := HM.put (w := w4.drew) Try.underlying105 (hmap4.keep rfl) (k := k) trivial (.pointer (some ⟨n, 0, none⟩))
  unfold hK at p5
  have c0 : w4.cell? ⟨b, 0, none⟩ = some (.map (some m)) := by rw [cell_of hcells]; rfl
  have y0 := cell_of hz4 0
  have y1 := cell_of hz4 1
  simp at y0 y1
  go_region
  have hM5 := Ms.turn (w := w4.drew) hM4 t5
  have hc5 := turn_block t5 hcells (fun _ _ q => by cases q)
  have hF5 : Ft B w W5 := ((Ft.of hbw hBw).trans (Ft.fd hF4)).drew.trans (Ft.turn t5 h2.mB h2.mY (by have := hF4.bel.size; have := h2.size; show B ≤ w4.heap.size; omega))
  have hrows : T.rows = bef c ++ aft c := by rw [hT.out, rows_plug]; simp [Tr.rows]
  have hRn : (top :: (bef c ++ [(n, k)] ++ aft c).map (·.1)).Nodup := by
    have hp2 : ((bef c ++ [(n, k)] ++ aft c).map (·.1)).Perm (n :: T.adds) := by
      unfold Tr.adds
      rw [hrows]
      simp only [List.map_append, List.map_cons, List.map_nil, List.append_assoc, List.singleton_append]
      exact List.perm_middle
    rw [List.nodup_cons]
    refine ⟨fun q => ?_, hp2.nodup_iff.2 (List.nodup_cons.2 ⟨fun q => ?_, hnd1.2⟩)⟩
    · rcases List.mem_cons.1 (hp2.mem_iff.1 q) with q | q
      · exact hnc (by simp [q])
      · exact hnd1.1 q
    · obtain ⟨x, hx⟩ := h2.wh.sub.lt q
      have := hlt n x hx
      omega
  have hlen : (bef c ++ [(n, k)] ++ aft c).length = T.size + 1 := by
    rw [← Tr.size_rows, hrows]; simp; omega
  have hOk := (Okc_of (c := c) (x := .nil) (by rw [← hT.out]; exact h2.avl)).2
  have kL := clevel_any W5 B b m top n c (bef c ++ [(n, k)] ++ aft c) hc5 (.inr ⟨M4, k, .nil, .nil, 0, 0, 0, hM5, hP4, hn4, trivial, trivial, trivial, trivial, ⟨by simp [Tr.deep], by simp [Tr.deep], by simp [Tr.deep]⟩, hOk, by simp [Tr.rows]⟩) hRn (by omega)
  have hfin : ∀ w6, Done w6 B top (bef c ++ [(n, k)] ++ aft c) → Fd B W5 w6 → (∃ M' T', Tw w6 B b m top M' T' ∧ T'.keys = T.keys.take i ++ k :: T.keys.drop i) ∧ Ft B w w6 := by
    intro w6 hD hF6
    have hkeys : T.keys = (bef c).map (·.2) ++ (aft c).map (·.2) := by unfold Tr.keys; rw [hrows, List.map_append]
    obtain ⟨M6, T6, hT6, hr6⟩ := Tw.of_done (b := b) (m := m) hD (hF6.keep _ _ hc5 (by intro cs e; cases e)) h2.bB h2.mB ⟨nn + 1, updH F k (some (.pointer (some ⟨n, 0, none⟩))), by
      obtain ⟨es, cl, e1, e2⟩ := i5
      exact ⟨es, cl, hF6.keep m _ e1 (by intro cs e; cases e), e2⟩, fun h' v => by
      by_cases e : h' = k
      · subst e
        rw [updH_self]
        constructor
        · intro e; cases e; exact ⟨n, by simp, rfl⟩
        · rintro ⟨a, ha, rfl⟩
          simp only [List.mem_append, List.mem_singleton, Prod.mk.injEq] at ha
          rcases ha with (ha | ⟨rfl, _⟩) | ha
          · exact absurd (by rw [hkeys]; exact List.mem_append_left _ (List.mem_map.2 ⟨_, ha, rfl⟩)) hk
          · rfl
          · exact absurd (by rw [hkeys]; exact List.mem_append_right _ (List.mem_map.2 ⟨_, ha, rfl⟩)) hk
      · rw [updH_ne _ _ e, hF2, hrows]
        simp only [List.mem_append, List.mem_singleton, Prod.mk.injEq, e, and_false, or_false]⟩ hRn (by
      have hp3 : ((bef c ++ [(n, k)] ++ aft c).map (·.2)).Perm (k :: T.keys) := by
        rw [hkeys]
        simp only [List.map_append, List.map_cons, List.map_nil, List.append_assoc, List.singleton_append]
        exact List.perm_middle
      exact hp3.nodup_iff.2 (List.nodup_cons.2 ⟨hk, h2.kd⟩)) (by omega) h2.bY h2.mY (Nat.le_trans h.topY (Nat.le_trans hF5.bel.size hF6.bel.size))
    refine ⟨⟨M6, T6, hT6, ?_⟩, hF5.trans (Ft.fd hF6)⟩
    have hb3 : ((bef c).map (·.2)).length = i := by rw [List.length_map]; exact hbi.out
    unfold Tr.keys at hkeys ⊢
    rw [hr6, hkeys, ← hb3, List.take_left', List.drop_left']
    · simp
    · rfl
    · rfl
  clear hM4 hP4 hn4 hcells hz4 hF hF2 hmap4 p5 i5 t5 c0 y0 y1 hM5 hc5 hF5 hOk hRn hlen hrows hF4
  go_wp2_with (go_at_call 104; go_loud (refine kL.mono ?_; rintro e w6 ⟨rfl, hD, hF6⟩))
  all_goals go_returns
  all_goals exact ⟨rfl, hfin w6 hD hF6⟩
end Go.Proofs.Ythgpbbpmfpfjnaa.T
