/- Towards TypesBytes: the document's Decode. -/
import Derived.Test.YtmcjmdoeafhjpaaDP
namespace Go.Proofs.Ytmcjmdoeafhjpaa
open Go.ChangeShapes Go.WideShapes Go.ChangeAt Go.RowKit Go.Shelf
set_option linter.unusedVariables false
set_option linter.unusedSimpArgs false
set_option maxRecDepth 20000
/-- A type that the document's Decode has read. -/
structure OkT (R : Nat) (w : World) (t : Ty) : Prop where
  ok : t.ok w
  blk : t.p = none ∨ ∃ g cs, t.p = some ⟨g, 0, none⟩ ∧ R < g ∧ w.heap[g]? = some (.cells cs 48 (0, 0))
theorem OkT.keep {R : Nat} {w w' : World} {t : Ty} (h : OkT R w t) (hk : ∀ g cs, R < g → w.heap[g]? = some (.cells cs 48 (0, 0)) → w'.heap[g]? = some (.cells cs 48 (0, 0))) (hs : w.heap.size ≤ w'.heap.size) : OkT R w' t := by
  obtain ⟨⟨h1, h2, h3, h4⟩, h5⟩ := h
  rcases h5 with e | ⟨g, cs, e, hg, hb⟩
  · refine ⟨⟨h1, h2, h3, ?_⟩, .inl e⟩
    rw [e] at h4 ⊢
    have hn : t.fs = [] := by
      rcases h4.at' with q | ⟨b, off, q, _⟩
      · exact q
      · cases q
    rw [hn]
    exact Flds.nil _ _
  · have hb' := hk g cs hg hb
    refine ⟨⟨h1, h2, h3, ?_⟩, .inr ⟨g, cs, e, hg, hb'⟩⟩
    rw [e] at h4 ⊢
    exact h4.heap (hb'.trans hb.symm) hs
theorem Rr.rv {R : Nat} {l : List UInt8} {bad : Bool} {w : World} {k j : Nat} (u : Value) (h : Rr R l bad w) (hk : R ≠ k) : Rr R l bad (w.setCell ⟨k, j, none⟩ u) := (setc_other u hk).trans h
theorem Rr.al {R : Nat} {l : List UInt8} {bad : Bool} {w : World} (h : Rr R l bad w) (o : Obj) : Rr R l bad (w.alloc o) := (heap_old w o (ch_lt h)).trans h
theorem own_rv {w w' : World} {base : Nat} {e : TypeId} {s : Nat} {v : Value} {n : Nat} {xs : List Value} {R : Nat} (h : w.ownsRow base e s v n xs) (hv : RV R w w') (hR : R < base) : w'.ownsRow base e s v n xs := by
  refine ⟨h.1, ?_⟩
  rcases h.2 with h0 | ⟨g, cap, cur, e1, hb, hg, h3⟩
  · exact .inl h0
  · exact .inr ⟨g, cap, cur, e1, hb, hv.heap hg (by omega), h3⟩
theorem own_kp {w w' : World} {base : Nat} {e : TypeId} {s : Nat} {v : Value} {n : Nat} {xs : List Value} (h : w.ownsRow base e s v n xs) (hk : ∀ k o, base ≤ k → w.heap[k]? = some o → w'.heap[k]? = some o) : w'.ownsRow base e s v n xs := by
  refine ⟨h.1, ?_⟩
  rcases h.2 with h0 | ⟨g, cap, cur, e1, hb, hg, h3⟩
  · exact .inl h0
  · exact .inr ⟨g, cap, cur, e1, hb, hk g _ hb hg, h3⟩
theorem own_al {w : World} {base : Nat} {e : TypeId} {s : Nat} {v : Value} {n : Nat} {xs : List Value} (h : w.ownsRow base e s v n xs) (o : Obj) : (w.alloc o).ownsRow base e s v n xs := h.alloc o
theorem own_any {w : World} {base : Nat} {e : TypeId} {s : Nat} {v : Value} {n : Nat} {xs : List Value} (h : w.ownsRow base e s v n xs) : ∃ p c, v = .slice p n c := by
  rcases h.2 with ⟨e1, h0⟩ | ⟨g, cap, cur, e1, _⟩
  · subst h0; exact ⟨none, 0, e1⟩
  · exact ⟨_, cap, e1⟩
theorem own_other {w : World} {base : Nat} {e : TypeId} {s : Nat} {v : Value} {n : Nat} {xs : List Value} (h : w.ownsRow base e s v n xs) {X j : Nat} (u : Value) {arr : Array Value} {t : TypeId} (hX : w.heap[X]? = some (.cells arr t (0, 0))) (hne : t ≠ e) : (w.setCell ⟨X, j, none⟩ u).ownsRow base e s v n xs := by
  refine ⟨h.1, ?_⟩
  rcases h.2 with h0 | ⟨g, cap, cur, e1, hb, hg, h3⟩
  · exact .inl h0
  · refine .inr ⟨g, cap, cur, e1, hb, (setc_other u ?_).trans hg, h3⟩
    rintro rfl
    rw [hX] at hg
    cases hg
    exact hne rfl
set_option maxHeartbeats 8000000 in
theorem rdecode_any (s : List UInt8) (hs : s.length ≤ 4096) (w : World) : Calls Try.prog 13 #[.string (tx s)] w fun e w' => DecP (decM s) e w' ∧ Bl w w' := by
  have hR0 := heap_new w #[.string (tx s), .bool false] 80
  have hbl0 : Bl w (w.alloc (.cells #[.string (tx s), .bool false] 80)) := (Bl.refl _).alloc _
  obtain ⟨i42, hi, hz0, hz1, hz2⟩ := info_parts info42
  obtain ⟨i48, gi, gz0, gz1, gz2⟩ := info_parts info48
  generalize hans : decM s = ans
  replace hans : Hid (decM s = ans) := hans
  go_enter Try.func13, Try.ntmps13
  go_upto_region 3 with fail
  generalize w.alloc (.cells #[.string (tx s), .bool false] 80) = W0 at hR0 hbl0 ⊢
  have kN := rnum_any w.heap.size s false hs W0 hR0
  have hbd := numR_bd s false
  have hst := num_st s false
  have hdec : Hid (ans = if (sevD tyD (numR s false).1.toNat (toSt (numR s false).2.1 (numR s false).2.2)).2 = some [] then some (sevD tyD (numR s false).1.toNat (toSt (numR s false).2.1 (numR s false).2.2)).1 else none) := by
    show ans = _
    rw [← hans.out]
    unfold decM
    have e1 : toSt s false = some s := rfl
    rw [e1] at hst
    rw [hst.1, hst.2 rfl]
  clear hst hans
  generalize (numR s false).1 = n0 at kN hbd hdec
  generalize (numR s false).2.1 = l0 at kN hbd hdec
  generalize (numR s false).2.2 = b0 at kN hdec
  obtain ⟨⟨hn0, hn1⟩, hl0⟩ := hbd
  obtain ⟨N, rfl⟩ : ∃ N : Nat, n0 = N := ⟨n0.toNat, (Int.toNat_of_nonneg hn0).symm⟩
  rw [Int.toNat_natCast] at hdec
  go_upto_region 4 with (go_at_call 39; refine kN.mono ?_; rintro e w1 ⟨rfl, hr1, hv1⟩)
  have hbl1 : Bl w w1 := hbl0.trans' hv1.bl (Nat.le_refl _)
  clear kN hbl0 hR0 hv1
  generalize hRR : w.heap.size = R at hr1 ⊢
  have hBB : ∀ x, Below R w x → Bl w x := fun x h => by
    show Below w.heap.size w x
    rw [hRR]; exact h
  replace hbl1 : Below R w w1 := by
    rw [← hRR]; exact hbl1
  clear hRR
  have hS0 := Sv.start none_ty N l0 b0
  generalize toSt l0 b0 = st0 at hS0 hdec
  go_wp2
  go_loopw [5, 7, 8, 9, 10, 11] (fun n5 n7 _ _ _ _ wr => ∃ (i : Nat) (LL : List Ty) (l : List UInt8) (bad : Bool), n7 = .int .i64 i ∧ i ≤ N ∧ LL.length = i ∧ l.length ≤ 4096 ∧ Rr R l bad wr ∧ Hid (Sv tyD N st0 i (LL.map Ty.core) l bad) ∧ wr.ownsRow (R + 1) 42 3 n5 i (LL.flatMap tcs) ∧ (∀ t ∈ LL, OkT R wr t) ∧ Below R w wr) (fun _ n7 _ _ _ _ _ => N - (intOf n7).toNat)
  case atStart => exact ⟨0, [], l0, b0, rfl, by omega, rfl, by omega, hr1, hS0, World.ownsRow_nil _ _ _ _, by simp, hbl1⟩
  case round =>
    clear hr1 hS0 hbl1
    obtain ⟨i, LL, l, bad, rfl, hiN, hLi, hl, hr, hS, hrow, hok, hbl⟩ := hrel
    replace hLi : Hid (LL.length = i) := hLi
    generalize wr = wo at hr hrow hok hbl ⊢
    have c1 : wo.cell? ⟨R, 1, none⟩ = some (.bool bad) := by rw [cell_at hr]; rfl
    have hRl := ch_lt hr
    by_cases hgo : i < N ∧ bad = false
    · obtain ⟨hin, rfl⟩ := hgo
      have d : decide ((i : Int) < N) = true := by simp; omega
      have e9 : IntKind.i64.wrap ((i : Int) + 1) = (i : Int) + 1 := IntWalk.i64_in _ (by omega)
      have kT := rtext_any R l false hl wo hr
      have hTb := txtR_bd l false
      obtain ⟨A, hA⟩ : ∃ A, txtR l false = A := ⟨_, rfl⟩
      rw [hA] at kT hTb
      go_upto_region 8 with (go_at_call 40; refine kT.mono ?_; rintro e w2 ⟨rfl, hr2, hv2⟩)
      have hz := heap_new w2 #[.string (tx A.1), .int .i64 0, .slice none 0 0] 42
      have hr3 := hr2.al (.cells #[.string (tx A.1), .int .i64 0, .slice none 0 0] 42)
      have hv3 : RV R wo (w2.alloc (.cells #[.string (tx A.1), .int .i64 0, .slice none 0 0] 42)) := hv2.trans (RV.of ((Bl.refl _).alloc _) (Nat.le_of_lt (ch_lt hr2)))
      have hz2' : wo.heap.size ≤ w2.heap.size := hv2.bl.size
      clear kT hr2 hv2 c1
      generalize w2.alloc (.cells #[.string (tx A.1), .int .i64 0, .slice none 0 0] 42) = w3 at hz hr3 hv3 ⊢
      generalize w2.heap.size = z at hz hz2' ⊢
      have kN := rnum_any R A.2.1 A.2.2 (by omega) w3 hr3
      have hBb := numR_bd A.2.1 A.2.2
      obtain ⟨Bq, hB⟩ : ∃ Bq, numR A.2.1 A.2.2 = Bq := ⟨_, rfl⟩
      rw [hB] at kN hBb
      go_upto_region 9 with (go_at_call 39; refine kN.mono ?_; rintro e w4 ⟨rfl, hr4, hv4⟩; have hz4 := hv4.heap hz (by omega); have z1 : w4.cell? ⟨z, 1, none⟩ = some (.int .i64 0) := (by rw [cell_at hz4]; rfl); have f1 := froz_at (j := 1) hz4)
      have hz5 : (w4.setCell ⟨z, 1, none⟩ (.int .i64 Bq.1)).heap[z]? = some (.cells #[.string (tx A.1), .int .i64 Bq.1, .slice none 0 0] 42 (0, 0)) := by simpa using setc_heap (j := 1) (.int .i64 Bq.1) hz4
      have hr5 := Rr.rv (k := z) (j := 1) (.int .i64 Bq.1) hr4 (by omega)
      have hk5 : ∀ k, R < k → k < z → (w4.setCell ⟨z, 1, none⟩ (.int .i64 Bq.1)).heap[k]? = w3.heap[k]? := fun k h1 h2 => (setc_other _ (by omega)).trans (hv4.ok k h1 (by have := ch_lt hz; omega))
      have hb5 : Below R w3 (w4.setCell ⟨z, 1, none⟩ (.int .i64 Bq.1)) := hv4.bl.trans (setc_below _ (by omega))
      clear kN hr4 hz4 z1 f1
      generalize w4.setCell ⟨z, 1, none⟩ (.int .i64 Bq.1) = w5 at hz5 hr5 hk5 hb5 ⊢
      clear hv4
      have kN := rnum_any R Bq.2.1 Bq.2.2 (by omega) w5 hr5
      have hCb := numR_bd Bq.2.1 Bq.2.2
      obtain ⟨Cq, hC⟩ : ∃ Cq, numR Bq.2.1 Bq.2.2 = Cq := ⟨_, rfl⟩
      rw [hC] at kN hCb
      obtain ⟨K, hK⟩ : ∃ K : Nat, Cq.1 = K := ⟨Cq.1.toNat, (Int.toNat_of_nonneg hCb.1.1).symm⟩
      rw [hK] at kN
      go_upto_region 10 with (go_at_call 39; refine kN.mono ?_; rintro e w6 ⟨rfl, hr6, hv6⟩)
      have hz6 := hv6.heap hz5 (by omega)
      have hk6 : ∀ k, R < k → k < z → w6.heap[k]? = w3.heap[k]? := fun k h1 h2 => (hv6.ok k h1 (by have := ch_lt hz5; omega)).trans (hk5 k h1 h2)
      have hb6 : Below R w3 w6 := hb5.trans hv6.bl
      clear kN hr5 hz5 hk5 hb5 hv6
      have hSf := Sv.start none_fld K Cq.2.1 Cq.2.2
      have hKs : K ≤ 255 := by omega
      go_wp2
      go_loopw [10, 11] (fun n10 _ wk => ∃ (j : Nat) (xs : List Fd) (v : Value) (l' : List UInt8) (bad' : Bool), n10 = .int .i64 j ∧ j ≤ K ∧ xs.length = j ∧ l'.length ≤ 4096 ∧ Rr R l' bad' wk ∧ Hid (Sv fldD K (toSt Cq.2.1 Cq.2.2) j xs l' bad') ∧ wk.heap[z]? = some (.cells #[.string (tx A.1), .int .i64 Bq.1, v] 42 (0, 0)) ∧ wk.ownsRow (z + 1) 48 5 v j (xs.flatMap fcs) ∧ (∀ x ∈ xs, x.ok) ∧ Hid (Cq.2.2 = true → bad' = true) ∧ (∀ k, R < k → k < z → wk.heap[k]? = w3.heap[k]?) ∧ Below R w3 wk) (fun n10 _ _ => K - (intOf n10).toNat)
      case atStart => exact ⟨0, [], .slice none 0 0, Cq.2.1, Cq.2.2, rfl, by omega, rfl, by omega, hr6, hSf, hz6, World.ownsRow_nil _ _ _ _, by simp, fun h => h, hk6, hb6⟩
      case round =>
        clear hr6 hSf hz6 hk6 hb6
        obtain ⟨j, xs, v, l', bad', rfl, hjK, hxj, hl', hr', hS', hz', hrow', hxok, hmono, hk', hb'⟩ := hrel
        replace hxj : Hid (xs.length = j) := hxj
        have c1 : wr.cell? ⟨R, 1, none⟩ = some (.bool bad') := by rw [cell_at hr']; rfl
        have hzl := ch_lt hz'
        by_cases hgo' : j < K ∧ bad' = false
        · obtain ⟨hjl, rfl⟩ := hgo'
          have dj : decide ((j : Int) < K) = true := by simp; omega
          have e8 : IntKind.i64.wrap ((j : Int) + 1) = (j : Int) + 1 := IntWalk.i64_in _ (by omega)
          have kT := rtext_any R l' false hl' wr hr'
          have hTb' := txtR_bd l' false
          obtain ⟨a, ha⟩ : ∃ a, txtR l' false = a := ⟨_, rfl⟩
          rw [ha] at kT hTb'
          go_upto_region 14 with (go_at_call 40; refine kT.mono ?_; rintro e v2 ⟨rfl, hr2, hv2⟩)
          have hy := heap_new v2 #[.string (tx a.1), .int .u8 0, .int .i64 0, .int .i64 0, .int .i64 0] 48
          have hy2 : z < v2.heap.size := Nat.lt_of_lt_of_le hzl hv2.bl.size
          have hyw : wr.heap.size ≤ v2.heap.size := hv2.bl.size
          have hq0 := hr2.al (.cells #[.string (tx a.1), .int .u8 0, .int .i64 0, .int .i64 0, .int .i64 0] 48)
          have hv0 : RV R wr (v2.alloc (.cells #[.string (tx a.1), .int .u8 0, .int .i64 0, .int .i64 0, .int .i64 0] 48)) := hv2.trans (RV.of ((Bl.refl _).alloc _) (Nat.le_of_lt (ch_lt hr2)))
          clear kT hr2 hv2 c1
          generalize v2.alloc (.cells #[.string (tx a.1), .int .u8 0, .int .i64 0, .int .i64 0, .int .i64 0] 48) = u0 at hy hq0 hv0 ⊢
          generalize v2.heap.size = y at hy hy2 hyw ⊢
          have hyR : ∀ k, R < k → k < y → True := fun _ _ _ => trivial
          have kp0 : ∀ k o, R ≠ k → k ≠ y → wr.heap[k]? = some o → u0.heap[k]? = some o := fun k o h1 _ h2 => hv0.heap h2 (Ne.symm h1)
          have bl0 : Below R wr u0 := hv0.bl
          clear hv0
          have kN := rnum_any R a.2.1 a.2.2 (by omega) u0 hq0
          have hbb := numR_bd a.2.1 a.2.2
          obtain ⟨b, hb⟩ : ∃ b, numR a.2.1 a.2.2 = b := ⟨_, rfl⟩
          rw [hb] at kN hbb
          have wb : IntKind.u8.wrap b.1 = b.1 := IntWalk.u8_in _ (by omega)
          go_upto_region 15 with (go_at_call 39; refine kN.mono ?_; rintro e v3 ⟨rfl, hr2, hv2⟩; have hy3 := hv2.heap hy (by omega); have y1 : v3.cell? ⟨y, 1, none⟩ = some (.int .u8 0) := (by rw [cell_at hy3]; rfl); have f1 := froz_at (j := 1) hy3)
          replace hy : (v3.setCell ⟨y, 1, none⟩ (.int .u8 b.1)).heap[y]? = some (.cells #[.string (tx a.1), .int .u8 b.1, .int .i64 0, .int .i64 0, .int .i64 0] 48 (0, 0)) := by simpa using setc_heap (j := 1) (.int .u8 b.1) hy3
          have hq1 := Rr.rv (k := y) (j := 1) (.int .u8 b.1) hr2 (by omega)
          have kp1 : ∀ k o, R ≠ k → k ≠ y → wr.heap[k]? = some o → (v3.setCell ⟨y, 1, none⟩ (.int .u8 b.1)).heap[k]? = some o := fun k o h1 h3 h2 => (setc_other _ h3).trans (hv2.heap (kp0 k o h1 h3 h2) (Ne.symm h1))
          have bl1 : Below R wr (v3.setCell ⟨y, 1, none⟩ (.int .u8 b.1)) := (bl0.trans hv2.bl).trans (setc_below _ (by omega))
          clear kN hr2 hy3 y1 f1 hv2 hq0 kp0 bl0
          generalize (v3.setCell ⟨y, 1, none⟩ (.int .u8 b.1)) = u1 at hy hq1 kp1 bl1 ⊢
          have kN := rnum_any R b.2.1 b.2.2 (by omega) u1 hq1
          have hcb := numR_bd b.2.1 b.2.2
          obtain ⟨c, hc⟩ : ∃ c, numR b.2.1 b.2.2 = c := ⟨_, rfl⟩
          rw [hc] at kN hcb
          go_upto_region 16 with (go_at_call 39; refine kN.mono ?_; rintro e v4 ⟨rfl, hr2, hv2⟩; have hy3 := hv2.heap hy (by omega); have y1 : v4.cell? ⟨y, 2, none⟩ = some (.int .i64 0) := (by rw [cell_at hy3]; rfl); have f1 := froz_at (j := 2) hy3)
          replace hy : (v4.setCell ⟨y, 2, none⟩ (.int .i64 c.1)).heap[y]? = some (.cells #[.string (tx a.1), .int .u8 b.1, .int .i64 c.1, .int .i64 0, .int .i64 0] 48 (0, 0)) := by simpa using setc_heap (j := 2) (.int .i64 c.1) hy3
          have hq2 := Rr.rv (k := y) (j := 2) (.int .i64 c.1) hr2 (by omega)
          have kp2 : ∀ k o, R ≠ k → k ≠ y → wr.heap[k]? = some o → (v4.setCell ⟨y, 2, none⟩ (.int .i64 c.1)).heap[k]? = some o := fun k o h1 h3 h2 => (setc_other _ h3).trans (hv2.heap (kp1 k o h1 h3 h2) (Ne.symm h1))
          have bl2 : Below R wr (v4.setCell ⟨y, 2, none⟩ (.int .i64 c.1)) := (bl1.trans hv2.bl).trans (setc_below _ (by omega))
          clear kN hr2 hy3 y1 f1 hv2 hq1 kp1 bl1
          generalize (v4.setCell ⟨y, 2, none⟩ (.int .i64 c.1)) = u2 at hy hq2 kp2 bl2 ⊢
          have kN := rnum_any R c.2.1 c.2.2 (by omega) u2 hq2
          have hdb := numR_bd c.2.1 c.2.2
          obtain ⟨d, hd⟩ : ∃ d, numR c.2.1 c.2.2 = d := ⟨_, rfl⟩
          rw [hd] at kN hdb
          go_upto_region 17 with (go_at_call 39; refine kN.mono ?_; rintro e v5 ⟨rfl, hr2, hv2⟩; have hy3 := hv2.heap hy (by omega); have y1 : v5.cell? ⟨y, 3, none⟩ = some (.int .i64 0) := (by rw [cell_at hy3]; rfl); have f1 := froz_at (j := 3) hy3)
          replace hy : (v5.setCell ⟨y, 3, none⟩ (.int .i64 d.1)).heap[y]? = some (.cells #[.string (tx a.1), .int .u8 b.1, .int .i64 c.1, .int .i64 d.1, .int .i64 0] 48 (0, 0)) := by simpa using setc_heap (j := 3) (.int .i64 d.1) hy3
          have hq3 := Rr.rv (k := y) (j := 3) (.int .i64 d.1) hr2 (by omega)
          have kp3 : ∀ k o, R ≠ k → k ≠ y → wr.heap[k]? = some o → (v5.setCell ⟨y, 3, none⟩ (.int .i64 d.1)).heap[k]? = some o := fun k o h1 h3 h2 => (setc_other _ h3).trans (hv2.heap (kp2 k o h1 h3 h2) (Ne.symm h1))
          have bl3 : Below R wr (v5.setCell ⟨y, 3, none⟩ (.int .i64 d.1)) := (bl2.trans hv2.bl).trans (setc_below _ (by omega))
          clear kN hr2 hy3 y1 f1 hv2 hq2 kp2 bl2
          generalize (v5.setCell ⟨y, 3, none⟩ (.int .i64 d.1)) = u3 at hy hq3 kp3 bl3 ⊢
          have kN := rnum_any R d.2.1 d.2.2 (by omega) u3 hq3
          have heb := numR_bd d.2.1 d.2.2
          obtain ⟨e, he⟩ : ∃ e, numR d.2.1 d.2.2 = e := ⟨_, rfl⟩
          rw [he] at kN heb
          go_upto_region 18 with (go_at_call 39; refine kN.mono ?_; rintro e v6 ⟨rfl, hr2, hv2⟩; have hy3 := hv2.heap hy (by omega); have y1 : v6.cell? ⟨y, 4, none⟩ = some (.int .i64 0) := (by rw [cell_at hy3]; rfl); have f1 := froz_at (j := 4) hy3)
          replace hy : (v6.setCell ⟨y, 4, none⟩ (.int .i64 e.1)).heap[y]? = some (.cells #[.string (tx a.1), .int .u8 b.1, .int .i64 c.1, .int .i64 d.1, .int .i64 e.1] 48 (0, 0)) := by simpa using setc_heap (j := 4) (.int .i64 e.1) hy3
          have hq4 := Rr.rv (k := y) (j := 4) (.int .i64 e.1) hr2 (by omega)
          have kp4 : ∀ k o, R ≠ k → k ≠ y → wr.heap[k]? = some o → (v6.setCell ⟨y, 4, none⟩ (.int .i64 e.1)).heap[k]? = some o := fun k o h1 h3 h2 => (setc_other _ h3).trans (hv2.heap (kp3 k o h1 h3 h2) (Ne.symm h1))
          have bl4 : Below R wr (v6.setCell ⟨y, 4, none⟩ (.int .i64 e.1)) := (bl3.trans hv2.bl).trans (setc_below _ (by omega))
          clear kN hr2 hy3 y1 f1 hv2 hq3 kp3 bl3
          generalize (v6.setCell ⟨y, 4, none⟩ (.int .i64 e.1)) = u4 at hy hq4 kp4 bl4 ⊢
          have hz4 := kp4 z _ (by omega) (by omega) hz'
          have hrow4 : u4.ownsRow (z + 1) 48 5 v j (xs.flatMap fcs) := by
            refine ⟨hrow'.1, ?_⟩
            rcases hrow'.2 with h0 | ⟨g, cap, cur, q1, q2, q3, q4⟩
            · exact .inl h0
            · refine .inr ⟨g, cap, cur, q1, q2, kp4 g _ (by omega) ?_ q3, q4⟩
              have h9 := ch_lt q3
              omega
          have hk4 : ∀ k, R < k → k < z → u4.heap[k]? = w3.heap[k]? := fun k h1 h2 => by
            have hkl : k < wr.heap.size := by omega
            rw [← hk' k h1 h2]
            exact (kp4 k _ (by omega) (by omega) (Array.getElem?_eq_getElem hkl)).trans (Array.getElem?_eq_getElem hkl).symm
          have hy0 : u4.cell? ⟨y, 0, none⟩ = some (.string (tx a.1)) := by rw [cell_at hy]; rfl
          have hy1 : u4.cell? ⟨y, 1, none⟩ = some (.int .u8 b.1) := by rw [cell_at hy]; rfl
          have hy2' : u4.cell? ⟨y, 2, none⟩ = some (.int .i64 c.1) := by rw [cell_at hy]; rfl
          have hy3 : u4.cell? ⟨y, 3, none⟩ = some (.int .i64 d.1) := by rw [cell_at hy]; rfl
          have hy4 : u4.cell? ⟨y, 4, none⟩ = some (.int .i64 e.1) := by rw [cell_at hy]; rfl
          have x2 : u4.cell? ⟨z, 2, none⟩ = some v := by rw [cell_at hz4]; rfl
          have hzl4 := ch_lt hz4
          go_wp2_with (refine wpList_append_own _ rfl _ _ 40 rfl (z + 1) 48 i48 (.agg #[.string ⟨#[]⟩, .int .u8 0, .int .i64 0, .int .i64 0, .int .i64 0]) 5 48 Try.underlying40 gi gz0 gz1 gz2 rfl (by decide) _ _ _ rfl (hrow4.alloc _) _ 1 1 [.string (tx a.1), .int .u8 b.1, .int .i64 c.1, .int .i64 d.1, .int .i64 e.1] rfl rfl (news_new _ _ _ _ (by simp)) (by simp [Value.oneCell']) (by simp [maxLen]; omega) (by omega) (by simp; omega) ?_; intro v' wa hown' hgrow hnil; obtain ⟨g', cap', rfl, hg'⟩ := own_shape hown'; have hXa : wa.heap[z]? = some (.cells #[.string (tx A.1), .int .i64 Bq.1, v] 42 (0, 0)) := (by rw [hgrow.block z (by simp; omega) (fun e => by have := (hrow4.lt z e.symm).1; omega), heap_old _ _ (by omega)]; exact hz4); have y2 : wa.cell? ⟨z, 2, none⟩ = some v := (by rw [cell_at hXa]; rfl); have f2 := froz_at (j := 2) hXa)
          have hba : Below R w3 wa := (hb'.trans bl4).trans (((Below.refl R u4).alloc (by omega) _).grown hgrow (by simp; omega) (fun k hk => by have := (hrow4.lt k hk).1; omega))
          have hka : ∀ k, R ≤ k → k < z → wa.heap[k]? = u4.heap[k]? := fun k h1 h2 => by
            rw [hgrow.block k (by simp; omega) (fun e => by have := (hrow4.lt k e.symm).1; omega), heap_old _ _ (by omega)]
          have hf := fld_st l'
          have hfv : fldR l' false = (⟨⟨a.1.toArray⟩, b.1, c.1, d.1, e.1⟩, e.2.1, e.2.2) := by
            unfold fldR
            rw [ha]
            simp only
            rw [hb, hc, hd, he]
          rw [hfv] at hf
          have hSn := Sv.step none_fld hS'.out hjl hf.1 hf.2
          replace hSn : Hid (Sv fldD K (toSt Cq.2.1 Cq.2.2) (j + 1) (xs ++ [⟨tx a.1, b.1, c.1, d.1, e.1⟩]) e.2.1 e.2.2) := hSn
          refine ⟨⟨j + 1, xs ++ [⟨tx a.1, b.1, c.1, d.1, e.1⟩], _, e.2.1, e.2.2, by simp, by omega, by have := hxj.out; simp; omega, by omega, ?_, hSn, setc_heap (j := 2) _ hXa, own_set ?_ _ (by omega), ?_, ?_, ?_, hba.trans (setc_below _ (by omega))⟩, by simp [intOf]; omega⟩
          · refine (setc_other _ (by omega)).trans ?_
            rw [hka R (Nat.le_refl _) (by omega)]
            exact hq4
          · rw [List.flatMap_append, List.flatMap_singleton]
            simpa [fcs] using hown'
          · intro x hx
            rcases List.mem_append.1 hx with hx | hx
            · exact hxok x hx
            · rw [List.mem_singleton.1 hx]
              refine ⟨by show (tx a.1).size ≤ maxLen; rw [tx_size]; unfold maxLen; omega, by show (0 : Int) ≤ b.1 ∧ b.1 ≤ 255; omega, ⟨by show (-9223372036854775808 : Int) ≤ c.1; omega, by show c.1 ≤ (9223372036854775807 : Int); omega⟩, ⟨by show (-9223372036854775808 : Int) ≤ d.1; omega, by show d.1 ≤ (9223372036854775807 : Int); omega⟩, ⟨by show (-9223372036854775808 : Int) ≤ e.1; omega, by show e.1 ≤ (9223372036854775807 : Int); omega⟩⟩
          · intro h
            have := hmono.out h
            cases this
          · exact fun k h1 h2 => (setc_other _ (by omega)).trans ((hka k (by omega) h2).trans (hk4 k h1 h2))
        · have hback : ∀ W : World, W = wr → Hid (bad' = false → j = K) := fun _ _ h => by
            by_cases hj : j < K
            · exact absurd ⟨hj, h⟩ hgo'
            · omega
          have hbk := hback wr rfl
          clear hback
          have hblk0 : ∀ p n c, v = .slice p n c → (p = none ∨ ∃ g cs, p = some ⟨g, 0, none⟩ ∧ R < g ∧ wr.heap[g]? = some (.cells cs 48 (0, 0))) := fun p n c e => by
            rcases hrow'.2 with ⟨q1, _⟩ | ⟨g, cap, cur, q1, q2, q3, q4⟩
            · rw [q1] at e; cases e; exact .inl rfl
            · rw [q1] at e; cases e; exact .inr ⟨g, _, rfl, by omega, q3⟩
          obtain ⟨pF, cF, rfl, hcl, hcm, hFl⟩ := flds_own (l := xs) (by rw [hxj.out]; exact hrow') hxok
          have hblk := hblk0 _ _ _ rfl
          clear hblk0
          have x0 : wr.cell? ⟨z, 0, none⟩ = some (.string (tx A.1)) := by rw [cell_at hz']; rfl
          have x1 : wr.cell? ⟨z, 1, none⟩ = some (.int .i64 Bq.1) := by rw [cell_at hz']; rfl
          have x2 : wr.cell? ⟨z, 2, none⟩ = some (.slice pF xs.length cF) := by rw [cell_at hz']; rfl
          have hKO : ∀ k o, R < k → wo.heap[k]? = some o → wr.heap[k]? = some o := fun k o h1 h2 => (hk' k h1 (by have := ch_lt h2; omega)).trans (hv3.heap h2 (by omega))
          have hrowR := own_kp hrow (fun k o h1 h2 => hKO k o (by omega) h2)
          have hws : wo.heap.size ≤ wr.heap.size := by omega
          have hokR : ∀ t ∈ LL, OkT R wr t := fun t ht => (hok t ht).keep (fun g cs h1 h2 => hKO g _ h1 h2) hws
          have htok : OkT R wr ⟨tx A.1, Bq.1, pF, cF, xs⟩ := by
            refine ⟨⟨?_, ?_, ⟨hcl, hcm⟩, hFl⟩, hblk⟩
            · show (tx A.1).size ≤ maxLen
              rw [tx_size]; unfold maxLen; omega
            · exact ⟨by show (-9223372036854775808 : Int) ≤ Bq.1; omega, by show Bq.1 ≤ (9223372036854775807 : Int); omega⟩
          have hblR : Below R w wr := hbl.trans (hv3.bl.trans hb')
          have hty := ty_st l A hA Bq Cq hB hC xs l' bad' j (by rw [hK, Int.toNat_natCast]; exact hS'.out) (fun h => by rw [hK, Int.toNat_natCast]; exact hbk.out h) hmono.out
          have hSn := Sv.step none_ty hS.out hin hty.1 hty.2
          replace hSn : Hid _ := hSn
          by_cases hjl : j < K
          · have dj : decide ((j : Int) < K) = true := by simp; omega
            obtain rfl : bad' = true := by
              cases bad' with
              | true => rfl
              | false => exact absurd ⟨hjl, rfl⟩ hgo'
            go_wp2_with (refine wpList_append_own _ rfl _ _ 22 rfl (R + 1) 42 i42 (.agg #[.string ⟨#[]⟩, .int .i64 0, .slice none 0 0]) 3 48 Try.underlying22 hi hz0 hz1 hz2 rfl (by decide) _ _ _ rfl (hrowR.alloc _) _ 1 1 [.string (tx A.1), .int .i64 Bq.1, .slice pF xs.length cF] rfl rfl (news_new _ _ _ _ (by simp)) (by simp [Value.oneCell']) (by simp [maxLen]; omega) (by omega) (by simp; omega) ?_; intro v' wa hown' hgrow hnil; skip)
            have hka : ∀ k (o : Obj), wr.heap[k]? = some o → (∀ cs, o ≠ .cells cs 42 (0, 0)) → wa.heap[k]? = some o := fun k o h1 h2 => by
              rw [hgrow.block k (by have := ch_lt h1; simp; omega) (fun e => ?_), heap_old _ _ (ch_lt h1)]
              · exact h1
              · rcases hrowR.2 with ⟨q1, _⟩ | ⟨g, cap, cur, q1, q2, q3, q4⟩
                · rw [q1] at e; cases e
                · rw [q1] at e
                  cases e
                  rw [h1] at q3
                  exact h2 _ (Option.some.inj q3)
            have hsa : wr.heap.size ≤ wa.heap.size := by have := hgrow.size; simp at this; omega
            have hba : Below R w wa := hblR.trans (((Below.refl R wr).alloc (by have := ch_lt hr'; omega) _).grown hgrow (by have := ch_lt hr'; simp; omega) (fun k hk => by have := (hrowR.lt k hk).1; omega))
            refine ⟨⟨i + 1, LL ++ [⟨tx A.1, Bq.1, pF, cF, xs⟩], l', _, by simp, by omega, by have := hLi.out; simp; omega, by omega, hka R _ hr' (fun cs q => by cases q), by rw [List.map_append]; exact hSn.out, ?_, fun t ht => ?_, hba⟩, by simp [intOf]; omega⟩
            · rw [List.flatMap_append, List.flatMap_singleton]
              simpa [tcs] using hown'
            · have hkk : ∀ t : Ty, OkT R wr t → OkT R wa t := fun t h => h.keep (fun g cs h1 h2 => hka g _ h2 (fun cs' q => by cases q)) hsa
              rcases List.mem_append.1 ht with ht | ht
              · exact hkk t (hokR t ht)
              · rw [List.mem_singleton.1 ht]; exact hkk _ htok
          · have dj : decide ((j : Int) < K) = false := by simp; omega
            go_wp2_with (refine wpList_append_own _ rfl _ _ 22 rfl (R + 1) 42 i42 (.agg #[.string ⟨#[]⟩, .int .i64 0, .slice none 0 0]) 3 48 Try.underlying22 hi hz0 hz1 hz2 rfl (by decide) _ _ _ rfl (hrowR.alloc _) _ 1 1 [.string (tx A.1), .int .i64 Bq.1, .slice pF xs.length cF] rfl rfl (news_new _ _ _ _ (by simp)) (by simp [Value.oneCell']) (by simp [maxLen]; omega) (by omega) (by simp; omega) ?_; intro v' wa hown' hgrow hnil; skip)
            have hka : ∀ k (o : Obj), wr.heap[k]? = some o → (∀ cs, o ≠ .cells cs 42 (0, 0)) → wa.heap[k]? = some o := fun k o h1 h2 => by
              rw [hgrow.block k (by have := ch_lt h1; simp; omega) (fun e => ?_), heap_old _ _ (ch_lt h1)]
              · exact h1
              · rcases hrowR.2 with ⟨q1, _⟩ | ⟨g, cap, cur, q1, q2, q3, q4⟩
                · rw [q1] at e; cases e
                · rw [q1] at e
                  cases e
                  rw [h1] at q3
                  exact h2 _ (Option.some.inj q3)
            have hsa : wr.heap.size ≤ wa.heap.size := by have := hgrow.size; simp at this; omega
            have hba : Below R w wa := hblR.trans (((Below.refl R wr).alloc (by have := ch_lt hr'; omega) _).grown hgrow (by have := ch_lt hr'; simp; omega) (fun k hk => by have := (hrowR.lt k hk).1; omega))
            refine ⟨⟨i + 1, LL ++ [⟨tx A.1, Bq.1, pF, cF, xs⟩], l', _, by simp, by omega, by have := hLi.out; simp; omega, by omega, hka R _ hr' (fun cs q => by cases q), by rw [List.map_append]; exact hSn.out, ?_, fun t ht => ?_, hba⟩, by simp [intOf]; omega⟩
            · rw [List.flatMap_append, List.flatMap_singleton]
              simpa [tcs] using hown'
            · have hkk : ∀ t : Ty, OkT R wr t → OkT R wa t := fun t h => h.keep (fun g cs h1 h2 => hka g _ h2 (fun cs' q => by cases q)) hsa
              rcases List.mem_append.1 ht with ht | ht
              · exact hkk t (hokR t ht)
              · rw [List.mem_singleton.1 ht]; exact hkk _ htok
    · have hend : Hid (bad = false → i = N) := fun h => by
        by_cases hj : i < N
        · exact absurd ⟨hj, h⟩ hgo
        · omega
      have hgo' : ∀ P : Prop, ((i < N ∧ bad = true) ∨ ¬ i < N → P) → P := fun P k => k (by
        by_cases hj : i < N
        · cases bad with
          | true => exact .inl ⟨hj, rfl⟩
          | false => exact absurd ⟨hj, rfl⟩ hgo
        · exact .inr hj)
      cases bad with
      | true =>
        have hno : Hid (ans = none) := by
          show ans = none
          rw [hdec.out, hS.out.2 rfl]
          rfl
        have hfin : ∀ w', Below R w w' → DecP ans (.returned (.tuple #[.slice none 0 0, .int .i64 8])) w' ∧ Bl w w' := fun w' hb => ⟨⟨fun _ => rfl, fun l h => by rw [hno.out] at h; cases h⟩, hBB _ hb⟩
        by_cases hj : i < N
        · have d : decide ((i : Int) < N) = true := by simp; omega
          go_wp2
          all_goals go_returns
          exact hfin _ hbl
        · have d : decide ((i : Int) < N) = false := by simp; omega
          go_wp2
          all_goals go_returns
          exact hfin _ hbl
      | false =>
        obtain rfl := hend.out rfl
        have d : decide ((i : Int) < (i : Int)) = false := by simp
        have hdn := hS.out.done
        rw [show sevD tyD i st0 = _ from hdn] at hdec
        clear hS
        cases l with
        | nil =>
          have hso : Hid (ans = some (LL.map Ty.core)) := by
            show ans = _
            rw [hdec.out]; rfl
          have c0 : wo.cell? ⟨R, 0, none⟩ = some (.string ⟨#[]⟩) := by rw [cell_at hr]; rfl
          obtain ⟨pp, pc, rfl, hpl, hpm, hTys⟩ := tys_own (L := LL) (by rw [hLi.out]; exact hrow) (fun t ht => (hok t ht).ok)
          go_wp2
          all_goals go_returns
          refine ⟨⟨fun h => ?_, fun l' h => ?_⟩, hBB _ hbl⟩
          · rw [hso.out] at h; cases h
          · rw [hso.out] at h
            cases h
            exact ⟨pp, LL, pc, by first | rfl | (rw [hLi.out]; rfl), hTys, hpl, hpm, rfl⟩
        | cons x r =>
          have hno : Hid (ans = none) := by
            show ans = none
            rw [hdec.out]; rfl
          have c0 : wo.cell? ⟨R, 0, none⟩ = some (.string (tx (x :: r))) := by rw [cell_at hr]; rfl
          have e0 : (tx (x :: r)).toList = x :: r := by rw [ByteArray.toList_eq]; rfl
          have e1 : (tx (x :: r)).toList.isEmpty = false := by rw [e0]; rfl
          go_wp2
          all_goals go_returns
          exact ⟨⟨fun _ => rfl, fun l h => by rw [hno.out] at h; cases h⟩, hBB _ hbl⟩
end Go.Proofs.Ytmcjmdoeafhjpaa
