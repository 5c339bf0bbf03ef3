/- Towards the statements of package tree (layer 16): Index. -/
import Derived.Test.YthgpbbpmfpfjnaaTG
namespace Go.Proofs.Ythgpbbpmfpfjnaa.T
open Go.ChangeShapes Go.WideShapes Go.ChangeAt Go.RowKit
set_option linter.unusedVariables false
set_option linter.unusedSimpArgs false
set_option maxRecDepth 20000
theorem index_nil (k : HKey) (w : World) : Calls Try.prog 116 #[.pointer none, .agg #[.int .i64 k.1, .int .u64 k.2]] w fun e w' => e = .returned (.tuple #[.int .i64 0, .bool false]) ∧ Below w.heap.size w w' := by
  have k1 := fun nq => made_nil ((w.alloc (.cells #[.int .i64 k.1, .int .u64 k.2] 31)).drewN nq)
  have hb1 := (Below.refl _ w).alloc (Nat.le_refl _) (.cells #[.int .i64 k.1, .int .u64 k.2] 31)
  go_enter Try.func116, Try.ntmps116
  go_upto_region 1 with fail
  go_quiet (first | (go_at_call 98; exact Calls.quiet_of_same (k1 _)))
  go_wp2
  all_goals go_returns
  all_goals exact ⟨rfl, Below.drewN hb1 _⟩
theorem index_no [Inhabited FarT] (w : World) (B b m top : Nat) (M : MN) (T : Tr) (h : Tw w B b m top M T) (k : HKey) (hk : k ∉ T.keys) :
    Calls Try.prog 116 #[.pointer (some ⟨b, 0, none⟩), .agg #[.int .i64 k.1, .int .u64 k.2]] w fun e w' => e = .returned (.tuple #[.int .i64 0, .bool false]) ∧ Below w.heap.size w w' := by
  have hb1 := (Below.refl _ w).alloc (Nat.le_refl _) (.cells #[.int .i64 k.1, .int .u64 k.2] 31)
  have yz := heap_alloc_new w (.cells #[.int .i64 k.1, .int .u64 k.2] 31)
  have h1 := h.keep hb1
  go_enter Try.func116, Try.ntmps116
  go_upto_region 1 with fail
  generalize w.alloc (.cells #[.int .i64 k.1, .int .u64 k.2] 31) = W at hb1 yz h1 ⊢
  have c0 := h1.c0
  have y0 := cell_of yz 0
  have y1 := cell_of yz 1
  simp at y0 y1
  obtain ⟨v, hv, -, hv2⟩ := h1.look k
  obtain rfl : v = .pointer none := by
    rcases hv2 with ⟨e, _⟩ | ⟨a, ha, _⟩
    · exact e
    · exact absurd (List.mem_map.2 ⟨_, ha, rfl⟩) hk
  have q1 := fun nq => hv (W.drewN nq) rfl
  have q2 := eqp_no
  have k1 := fun nq => made_yes (W.drewN nq) b m h1.c0
  clear hv hv2
  go_quiet (first | (go_at_call 98; exact Calls.quiet_of_same (k1 _)))
  go_wp2
  all_goals go_returns
  all_goals exact ⟨rfl, Below.drewN hb1 _⟩
theorem index_yes [Inhabited FarT] (w : World) (B b m top : Nat) (M : MN) (T : Tr) (h : Tw w B b m top M T) (k : HKey) (c : List Fra) (a : Nat) (l r : Tr) (hT : T = plug c (.nd a k l r)) :
    Calls Try.prog 116 #[.pointer (some ⟨b, 0, none⟩), .agg #[.int .i64 k.1, .int .u64 k.2]] w fun e w' => e = .returned (.tuple #[.int .i64 (((bef c).length + l.size : Nat) : Int), .bool true]) ∧ Below w.heap.size w w' := by
  have hb1 := (Below.refl _ w).alloc (Nat.le_refl _) (.cells #[.int .i64 k.1, .int .u64 k.2] 31)
  have yz := heap_alloc_new w (.cells #[.int .i64 k.1, .int .u64 k.2] 31)
  have h1 := h.keep hb1
  have hrow : (a, k) ∈ T.rows := by rw [hT, rows_plug]; simp [Tr.rows]
  replace hT : Hid (T = plug c (.nd a k l r)) := hT
  go_enter Try.func116, Try.ntmps116
  go_upto_region 1 with fail
  generalize w.alloc (.cells #[.int .i64 k.1, .int .u64 k.2] 31) = W at hb1 yz h1 ⊢
  have c0 := h1.c0
  have y0 := cell_of yz 0
  have y1 := cell_of yz 1
  simp at y0 y1
  obtain ⟨v, hv, -, hv2⟩ := h1.look k
  obtain rfl : v = .pointer (some ⟨a, 0, none⟩) := by
    rcases hv2 with ⟨_, e⟩ | ⟨a', ha, e⟩
    · exact absurd (List.mem_map.2 ⟨_, hrow, rfl⟩) e
    · have hkd := h.kd
      have : a' = a := by
        unfold Tr.keys at hkd
        obtain ⟨i, hi⟩ := List.getElem?_of_mem ha
        obtain ⟨j, hj⟩ := List.getElem?_of_mem hrow
        have hlt := (List.getElem?_eq_some_iff.1 hi).1
        have := (List.getElem?_inj (l := T.rows.map (·.2)) (by simpa using hlt) hkd).1 (by rw [List.getElem?_map, List.getElem?_map, hi, hj]; rfl : (T.rows.map (·.2))[i]? = (T.rows.map (·.2))[j]?)
        subst this
        rw [hi] at hj
        exact congrArg Prod.fst (Option.some.inj hj)
      rw [e, this]
  have q1 := fun nq => hv (W.drewN nq) rfl
  have q2 := eqp_yes a
  have k1 := fun nq => made_yes (W.drewN nq) b m h1.c0
  go_quiet (first | (go_at_call 98; exact Calls.quiet_of_same (k1 _)))
  go_upto_region 3 with fail
  replace h1 := h1.drewN nq
  replace hb1 := Below.drewN hb1 nq
  clear c0 q1 k1 hv2
  replace y0 : (W.drewN nq).cell? _ = _ := y0
  replace y1 : (W.drewN nq).cell? _ = _ := y1
  replace hv : ∀ n, (Instr.lookup 105 (.map (some m)) (.agg #[.int .i64 k.1, .int .u64 k.2]) false).run Try.prog ((W.drewN nq).drewN n) = _ := fun n => hv _ rfl
  generalize W.drewN nq = W2 at h1 hb1 y0 y1 hv ⊢
  have c0 := h1.c0
  go_quiet (fail)
  replace h1 := h1.drewN nq
  replace hb1 := Below.drewN hb1 nq
  clear c0 y0 y1 hv
  generalize W2.drewN nq = W3 at h1 hb1 ⊢
  have hM := h1.ms
  have hwh := h1.wh
  have hlen := h1.len
  have hnd := h1.nd
  have b1 := h1.c1
  have hx0 := hwh
  rw [hT.out] at hx0
  obtain ⟨hP0, hn0, hl0, hr0⟩ := hx0.open
  have c3 := hM.c3 hn0
  simp only at c3
  have kL := nlen_any W3 B M hM l.root (fun a e => by obtain ⟨x, hx, _⟩ := hl0.is e; exact ⟨x, hx⟩)
  rw [hl0.sz] at kL
  generalize hvl : pO l.root = vl at c3 kL
  have hsz : ∀ (c : List Fra) (x : Tr), Hid (T = plug c x) → (bef c).length + x.size ≤ 2000 := fun c x e => by
    have : T.rows = (plug c x).rows := by rw [← e.out]
    rw [rows_plug] at this
    have := congrArg List.length this
    rw [Tr.size_rows] at this
    simp [Tr.size_rows] at this
    omega
  clear h1 hn0 hP0 hl0 hr0 hx0
  go_upto_region 5 with (go_at_call 105; refine kL.mono ?_; rintro e w' ⟨rfl, hw⟩; rw [hw]; clear hw)
  clear kL c3
  generalize hJ : (bef c).length + l.size = J
  replace hJ : Hid ((bef c).length + l.size = J) := hJ
  have hJ0 := hJ
  go_loopg [6, 7] (c.length + 1) (fun g v6 v7 wr => wr = W3 ∧ ((v6 = .pointer (some ⟨top, 0, none⟩) ∧ v7 = .int .i64 J) ∨ ∃ (c : List Fra) (n : Nat) (kx : HKey) (l r : Tr) (j : Nat), v6 = .pointer (some ⟨n, 0, none⟩) ∧ v7 = .int .i64 j ∧ Hid (T = plug c (.nd n kx l r)) ∧ j ≤ (Tr.nd n kx l r).size ∧ Hid ((bef c).length + j = J) ∧ c.length + 1 ≤ g))
  case atStart => exact ⟨rfl, .inr ⟨c, a, k, l, r, l.size, rfl, rfl, hT, by simp [Tr.size]; omega, hJ, Nat.le_refl _⟩⟩
  case round =>
    clear hvl hrow hT hJ yz q2 h
    obtain ⟨rfl, ⟨rfl, rfl⟩ | ⟨c, n, kx, l, r, j, rfl, rfl, hT, hj, hJ, hg⟩⟩ := hrel
    · have q := neqp_same top wr
      go_wp2
      all_goals first | go_end0 | go_returns | skip
      all_goals exact ⟨by rw [hJ0.out]; rfl, hb1⟩
    · have hx0 := hwh
      rw [hT.out] at hx0
      obtain ⟨hP0, hn0⟩ := hx0.open
      have hp := (adds_plug c (.nd n kx l r)).symm
      rw [← hT.out] at hp
      have hnd1 := hnd
      rw [List.nodup_cons] at hnd1
      have hpn := (hp.nodup_iff).2 hnd1.2
      have htop : top ∉ (Tr.nd n kx l r).adds ++ adF c := fun q => hnd1.1 (hp.mem_iff.1 q)
      rw [List.nodup_append] at hpn
      obtain ⟨p1, p2, p3⟩ := hpn
      simp only [List.mem_append, not_or] at htop
      have hc : (top :: adF c).Nodup := List.nodup_cons.2 ⟨htop.2, p2⟩
      have hnc : n ∉ top :: adF c := fun q => by
        rcases List.mem_cons.1 q with rfl | q
        · exact htop.1 (by simp [Tr.adds_nd])
        · exact p3 n (by simp [Tr.adds_nd]) n q rfl
      obtain ⟨O, ho, hk, hs, hr, -⟩ := hP0.over hc hnc
      have hn1 := hn0.1
      have kS := side_any wr B M hM n (hdF top c) _ O hn1 rfl ho (sdF c) hk hs (fun a e => by
        rcases hr a e with rfl | q
        · exact ⟨_, hn1⟩
        · exact q)
      obtain ⟨xt, hxt⟩ := hP0.topIs
      have q := neqp_other (W := wr) (fun e : n = top => hnc (by simp [e])) hM hn1 hxt
      have c2 := hM.c2 hn1
      simp only [pO_some] at c2
      have hsT := hsz c _ hT
      clear hx0 hp hnd1 htop p1 p2 p3 hxt hn1 hnc hc ho hk hs hr hn0
      cases c with
      | nil =>
        simp only [sdF, sI, hdF, Bool.false_eq_true, if_false] at kS c2
        go_wp2_with (go_at_call 110; refine kS.mono ?_; rintro e w' ⟨rfl, hw⟩; rw [hw]; clear hw)
        go_roundg 0
        case measure => omega
        case rel => exact ⟨rfl, .inl ⟨rfl, by have := hJ.out; simp [bef] at this; rw [this]⟩⟩
      | cons f c =>
        obtain ⟨s, fa, fk, y⟩ := f
        obtain ⟨⟨z, d, g1⟩, g2, g3⟩ := hP0
        simp only at g1 g2 g3
        cases s with
        | false =>
          simp only [sdF, sI, hdF, Bool.false_eq_true, if_false] at kS c2
          go_wp2_with (go_at_call 110; refine kS.mono ?_; rintro e w' ⟨rfl, hw⟩; rw [hw]; clear hw)
          go_roundg (c.length + 1)
          case measure => simp at hg; omega
          case rel => exact ⟨rfl, .inr ⟨c, fa, fk, .nd n kx l r, y, j, rfl, rfl, hT, by simp only [Tr.size] at hj ⊢; omega, by have := hJ.out; simpa [bef, Hid] using this, Nat.le_refl _⟩⟩
        | true =>
          simp only [sdF, sI, hdF, if_true] at kS c2
          have c3 := hM.c3 g1
          simp only [mkN, if_true] at c3
          have kY := nlen_any wr B M hM y.root (fun a e => by obtain ⟨x, hx, _⟩ := g2.is e; exact ⟨x, hx⟩)
          rw [g2.sz] at kY
          generalize hvy : pO y.root = vy at c3 kY
          have hys := y.size_rows
          have hsT' : (bef c).length + (y.size + 1) + (Tr.nd n kx l r).size ≤ 2000 := by
            simp [bef, hys] at hsT; omega
          have e1 : IntKind.i64.wrap ((y.size : Int) + 1) = (y.size : Int) + 1 := IntWalk.i64_in _ (by omega)
          have e2 : IntKind.i64.wrap ((j : Int) + ((y.size : Int) + 1)) = ((j + (y.size + 1) : Nat) : Int) := by rw [IntWalk.i64_in _ (by omega)]; omega
          clear hsT g1
          go_wp2_with (first | (go_at_call 110; refine kS.mono ?_; rintro e w' ⟨rfl, hw⟩; rw [hw]; clear hw) | (go_at_call 105; refine kY.mono ?_; rintro e w' ⟨rfl, hw⟩; rw [hw]; clear hw))
          go_roundg (c.length + 1)
          case measure => simp at hg; omega
          case rel => exact ⟨rfl, .inr ⟨c, fa, fk, y, .nd n kx l r, j + (y.size + 1), rfl, rfl, hT, by simp only [Tr.size] at hj ⊢; omega, by have := hJ.out; simp [bef, hys] at this; simp only [Hid]; omega, Nat.le_refl _⟩⟩
end Go.Proofs.Ythgpbbpmfpfjnaa.T
