/- Towards the statements of package code (layer 8): CodeStays. -/
import Derived.Test.YtdmdmbcapjmnlaaGreatDB
import Derived.Test.YtdmdmbcapjmnlaaGreatDC
import Derived.Test.YtdmdmbcapjmnlaaGreatMB
namespace Go.Proofs.YtdmdmbcapjmnlaaGreat
open Go.ChangeShapes Go.WideShapes Go.ChangeAt
open Go.RowKit Go.Shelf
set_option linter.unusedVariables false
set_option linter.unusedSimpArgs false
set_option maxRecDepth 20000
/-- A row of bytes that lies at cv. -/
structure Row8 (w : World) (cv : Value) (C : List Int) : Prop where
  ok : ∀ x ∈ C, 0 ≤ x ∧ x ≤ 255
  at' : ((∃ p cap, cv = .slice p 0 cap) ∧ C = []) ∨ ∃ b off cap, cv = .slice (some ⟨b, off, none⟩) C.length cap ∧ b < w.heap.size ∧ ∀ (j : Nat) (x : Int), C[j]? = some x → w.cell? ⟨b, off + j, none⟩ = some (.int .u8 x)
theorem Row8.gr {w w' : World} {cv : Value} {C : List Int} (h : Row8 w cv C) (hb : Below w.heap.size w w') : Row8 w' cv C := by
  refine ⟨h.ok, ?_⟩
  rcases h.at' with e | ⟨b, off, cap, e, hlt, hc⟩
  · exact .inl e
  · exact .inr ⟨b, off, cap, e, Nat.lt_of_lt_of_le hlt hb.size, fun j x hx => (hb.cell (p := ⟨b, off + j, none⟩) hlt).trans (hc j x hx)⟩
theorem Row8.shape {w : World} {cv : Value} {C : List Int} (h : Row8 w cv C) : ∃ p cap, cv = .slice p C.length cap := by
  rcases h.at' with ⟨⟨p, cap, e⟩, e2⟩ | ⟨b, off, cap, e, _⟩
  · exact ⟨p, cap, by rw [e, e2]; rfl⟩
  · exact ⟨_, _, e⟩
theorem chk_passed {L : List Sl} (h : (chkM L).2 = 0) : Passed L 8 := by
  have key : ∀ n, n ≤ 8 → Passed L n := by
    intro n
    induction n with
    | zero => exact fun _ m hm => by omega
    | succ n ih =>
      intro hn
      have hp := ih (by omega)
      refine hp.snoc ?_
      by_cases he : (chkX L n).2 = 0
      · exact he
      · rw [chk_err (by omega) hp he] at h
        exact absurd h he
  exact key 8 (Nat.le_refl _)
theorem own_nil {w w' : World} {v : Value} {xs : List Int} (h : Own w w' v xs) (hx : xs = []) : ∃ p cap, v = .slice p 0 cap := by
  subst hx
  rcases h.1.2 with ⟨e, _⟩ | ⟨g, cap, cur, e, _⟩
  · exact ⟨none, 0, e⟩
  · exact ⟨_, _, e⟩
theorem own_get {w w' : World} {v : Value} {xs : List Int} (h : Own w w' v xs) (hx : xs ≠ []) : ∃ g cap, v = .slice (some ⟨g, 0, none⟩) xs.length cap ∧ ∀ (j : Nat) (x : Int), xs[j]? = some x → w'.cell? ⟨g, j, none⟩ = some (.int .i64 x) := by
  rcases h.1.2 with ⟨_, h0⟩ | ⟨g, cap, cur, e, hb, hg, hn, _, hs', ht⟩
  · simp at h0; exact absurd h0 hx
  · refine ⟨g, cap, e, fun j x hj => ?_⟩
    unfold World.cell?
    rw [hg]
    have h1 : (xs.map (Value.int .i64))[j]? = some (.int .i64 x) := by simp [hj]
    rw [← ht, List.getElem?_take] at h1
    split at h1
    · simpa using h1
    · cases h1
theorem next_mem {L : List Sl} {u x : Int} : x ∈ nextM L u ↔ x ∈ leadsM L u := by
  have hsort : ((leadsM L u).mergeSort fun x y => decide (x ≤ y)).Pairwise (· ≤ ·) := by
    have := List.pairwise_mergeSort (le := fun x y : Int => decide (x ≤ y)) (fun a b c h1 h2 => by simp at *; omega) (fun a b => by simp; omega) (leadsM L u)
    exact this.imp fun h => by simpa using h
  rw [nextM, (compact_sorted hsort).2 x, List.mem_mergeSort]
theorem Row8.get {w : World} {p : Option Addr} {n c : Nat} {C : List Int} (h : Row8 w (.slice p n c) C) {i : Nat} {x : Int} (hx : C[i]? = some x) : ∃ b off, p = some ⟨b, off, none⟩ ∧ w.cell? ⟨b, off + i, none⟩ = some (.int .u8 x) ∧ n = C.length ∧ b < w.heap.size := by
  rcases h.at' with ⟨_, e2⟩ | ⟨b, off, cap, e, hlt, hc⟩
  · rw [e2] at hx; simp at hx
  · cases e; exact ⟨b, off, rfl, hc i x hx, rfl, hlt⟩
set_option maxHeartbeats 4000000 in
theorem stays_any (sv cv : Value) (L : List Sl) (C : List Int) (first : Int) (hf : 0 ≤ first ∧ first ≤ 255) (hLl : L.length ≤ 4096) (w : World) (hL : Slots AnyB w sv L) (hC : Row8 w cv C) : Calls Tryz.prog 5 #[sv, .int .u8 first, cv] w fun e w' => e = .returned (.bool true) ∧ Below w.heap.size w w' := by
  obtain ⟨p, c, rfl⟩ := hL.shape
  obtain ⟨p2, c2, rfl⟩ := hC.shape
  have hal := fun W => alive_any W
  by_cases h200 : 200 < L.length
  · have d1 : decide ((200 : Int) < L.length) = true := by simp; omega
    go_enter Tryz.func5, Tryz.ntmps5
    go_wp2_with first | (go_at_call 7; refine (hal _).mono ?_; rintro e w1 ⟨rfl, hb⟩)
    go_returns
    exact ⟨rfl, hb⟩
  have d1 : decide ((200 : Int) < L.length) = false := by simp; omega
  by_cases h300 : 300 < C.length
  · have d2 : decide ((300 : Int) < C.length) = true := by simp; omega
    go_enter Tryz.func5, Tryz.ntmps5
    go_wp2_with first | (go_at_call 7; refine (hal _).mono ?_; rintro e w1 ⟨rfl, hb⟩)
    go_returns
    exact ⟨rfl, hb⟩
  have d2 : decide ((300 : Int) < C.length) = false := by simp; omega
  have kc := check_any _ L w hL
  by_cases hz : (chkM L).2 = 0
  · have hp := chk_passed hz
    have hq : (((chkM L).2 : Int) != 0) = false := by simp [hz]
    have hpos := may_pos hp
    have hne : slM L ≠ [] := List.length_pos_iff.1 hpos
    have hall : ∀ x ∈ slM L, x.1 < x.2 ∧ x.2 ≤ L.length := fun x hx => by
      obtain ⟨k, hk, e⟩ := List.getElem_of_mem hx
      obtain ⟨a, b, g1, g2, g3, g4, g5⟩ := may_get hp k hk
      rw [List.getElem?_eq_getElem hk, e] at g1
      cases g1
      exact ⟨g4, g5⟩
    have kw := fun W sb v (hS : SubsAt W sb v (slM L)) => whole_ok sb v (slM L) L.length hne hall W hS
    obtain ⟨fi, hfi⟩ : ∃ fi : Nat, first.tmod ((slM L).length : Int) = fi ∧ fi < (slM L).length := ⟨(first.tmod ((slM L).length : Int)).toNat, by
      rw [Int.tmod_eq_emod_of_nonneg hf.1]
      have h1 := Int.emod_nonneg first (show ((slM L).length : Int) ≠ 0 by omega)
      have h2 := Int.emod_lt_of_pos first (show (0 : Int) < (slM L).length by omega)
      omega⟩
    obtain ⟨x, y, hx, hx2, hx3, hxy, hyl⟩ := may_get hp fi hfi.2
    clear hx2 hx3
    obtain ⟨hfi1, hfi2⟩ := hfi
    have hlS : (slM L).length ≤ 4096 := by rw [may_len hp]; have := (pass_heads hp (by decide)).len; omega
    generalize hSL : slM L = SL at kc kw hpos hfi1 hfi2 hx hlS
    have hm0 : ((SL.length : Int) == 0) = false := by rw [beq_eq_false_iff_ne]; omega
    go_enter Tryz.func5, Tryz.ntmps5
    go_upto_region 8 with first | (go_at_call 20; refine kc.mono ?_; rintro e w1 ⟨v, rfl, h1, _, hb1⟩; obtain ⟨sb, hsb, hS⟩ := h1 hz; obtain ⟨cs, rfl⟩ := hS.val) | (go_at_call 23; refine (kw _ _ _ hS).mono ?_; rintro e w2 ⟨rfl, hb2⟩; have hS2 := hS.gr hb2; have hb12 := hb1.trans (hb2.mono hb1.size))
    obtain ⟨s0, s1⟩ := hS2.cell fi (x, y) hx
    have d5 : decide ((0 : Int) ≤ (fi : Int) ∧ (fi : Int) < (SL.length : Int)) = true := by simp; omega
    go_wp2_with fail
    have hA : (w2.alloc (.cells #[.int .i64 x, .int .i64 y] 49)).heap[w2.heap.size]? = some (.cells #[.int .i64 x, .int .i64 y] 49) := World.alloc_heap_new w2 _
    have hal2 : Below w2.heap.size w2 (w2.alloc (.cells #[.int .i64 x, .int .i64 y] 49)) := (Below.refl _ w2).alloc (Nat.le_refl _) _
    have hS3 := hS2.gr hal2
    have hb3 : Below w.heap.size w (w2.alloc (.cells #[.int .i64 x, .int .i64 y] 49)) := hb12.trans (hal2.mono hb12.size)
    have hL3 := hL.gr hb3
    have hC3 := hC.gr hb3
    have hAw : w.heap.size ≤ w2.heap.size := hb12.size
    have hAs : w2.heap.size ≠ sb := by have := hS2.lt; omega
    generalize (w2.alloc (.cells #[.int .i64 x, .int .i64 y] 49)) = W3 at hA hS3 hb3 hL3 hC3 ⊢
    generalize w2.heap.size = A at hA hAw hAs ⊢
    go_loopw [11, 12, 13] (fun a b c wr => ∃ (u d i cur x y : Nat) (pth : List Nat), a = .int .i64 u ∧ b = .int .i64 d ∧ c = .int .i64 i ∧ i ≤ C.length ∧ (slM L)[cur]? = some (x, y) ∧ x ≤ u ∧ u < y ∧ isBeg L u ∧ Chain L d cur pth ∧ wr.heap[A]? = some (.cells #[.int .i64 x, .int .i64 y] 49) ∧ SubsAt wr sb (.slice (some ⟨sb, 0, none⟩) SL.length cs) SL ∧ Below w.heap.size w wr) (fun a b c _ => C.length - (intOf c).toNat)
    case atStart => exact ⟨x, 0, 0, fi, x, y, [fi], rfl, rfl, rfl, by omega, by rw [hSL]; exact hx, Nat.le_refl _, hxy, may_beg hp fi x y (by rw [hSL]; exact hx), chain_one hp fi (by rw [hSL]; exact hfi2), hA, hS3, hb3⟩
    case round =>
      obtain ⟨u, d, i, cur, x, y, pth, rfl, rfl, rfl, hi, hcur, hxu, huy, hbg, hch, hbox, hSr, hbr⟩ := hrel
      by_cases hlt : i < C.length
      · have d7 : decide ((i : Int) < C.length) = true := by simp; omega
        obtain ⟨ci, hci⟩ : ∃ ci, C[i]? = some ci := ⟨C[i], by simp [hlt]⟩
        obtain ⟨s, hs⟩ : ∃ s, slotAt L u = some s := ⟨_, slotAt_nat hbg.1⟩
        have hk0 := beg_kind L u hbg.2
        rw [kindM, hs] at hk0
        obtain ⟨g0, g1⟩ := slotAt_some hs
        have hLr := hL.gr hbr
        have hCr := hC.gr hbr
        obtain ⟨b, off, cap, hsv, hb0, ⟨c0, c1, c2, c3, c4⟩, ⟨⟨o0, o1⟩, ⟨q0, q1⟩, ⟨t0, t1⟩, _⟩, hltb⟩ := hLr.here.get g0 g1
        cases hsv
        simp only [Int.toNat_natCast] at c0 c1 c2 c3 c4
        have hul := hbg.1
        have hdep := hch.depth hp
        rw [hSL] at hdep
        have b0 : wr.cell? ⟨A, 0, none⟩ = some (.int .i64 x) := by unfold World.cell?; rw [hbox]; rfl
        have b1 : wr.cell? ⟨A, 1, none⟩ = some (.int .i64 y) := by unfold World.cell?; rw [hbox]; rfl
        have v1 : decide (u < x) = false := by simp; omega
        have v2 : decide (y ≤ u) = false := by simp; omega
        have v3 : decide (SL.length < d) = false := by simp; omega
        have v4 : (s.k == 0) = false := by simpa using hk0
        have rk := fun W => rkind_any s.o s.d s.s s.f s.i o0 o1 q0 q1 t0 t1 W
        rw [show kV s.o s.d s.s s.f s.i = s.k from rfl] at rk
        have kcal := fun W (hW : Below wr.heap.size wr W) => callee_any AnyB _ L u W (hLr.gr hW)
        go_upto_region 16 with first | (go_at_call 24; refine (rk _).mono ?_; rintro e w4 ⟨rfl, hg4⟩)
        have hb4 := hbr.trans (hg4.below.mono hbr.size)
        have hbox4 := (hg4.below.block _ (ch_lt hbox)).trans hbox
        have hS4 := hSr.gr hg4.below
        have hL4 := hLr.gr hg4.below
        have hcel : ∀ W, Below wr.heap.size wr W → W.cell? ⟨b, off + u * 5, none⟩ = some (.int .u8 s.o) ∧ W.cell? ⟨b, off + u * 5 + 1, none⟩ = some (.int .u8 s.d) ∧ W.cell? ⟨b, off + u * 5 + 2, none⟩ = some (.int .u8 s.s) ∧ W.cell? ⟨b, off + u * 5 + 3, none⟩ = some (.int .i16 s.f) ∧ W.cell? ⟨b, off + u * 5 + 4, none⟩ = some (.int .i32 s.i) := fun W hW => ⟨(hW.cell (p := ⟨b, _, none⟩) hb0).trans c0, (hW.cell (p := ⟨b, _, none⟩) hb0).trans c1, (hW.cell (p := ⟨b, _, none⟩) hb0).trans c2, (hW.cell (p := ⟨b, _, none⟩) hb0).trans c3, (hW.cell (p := ⟨b, _, none⟩) hb0).trans c4⟩
        clear c0 c1 c2 c3 c4 b0 b1 hbox hSr hLr hCr
        generalize hcm : calleeM L u = cm
        have k10 := callee_any AnyB _ L u w4 hL4
        rw [calleeV, hcm] at k10
        -- whether it is a call that is followed
        by_cases hfol : ∃ t, cm = some t ∧ s.k = 7 ∧ ci % 2 = 1
        · obtain ⟨t, rfl, hk7, hodd⟩ := hfol
          dsimp only at k10
          have hfn : funB L u = false := by rw [funB, hs]; simp [hk7]
          obtain ⟨ht0, j, y', hj, hjc⟩ := may_calls hp cur x y hcur u hxu huy hbg t hcm hfn
          have huniq : ∀ (n yn : Nat), (slM L)[n]? = some (t.toNat, yn) → n = j ∧ yn = y' := by
            intro n yn hn
            obtain ⟨a1, b1, g1, _, _, g4, _⟩ := may_get hp n (List.getElem?_eq_some_iff.1 hn).1
            rw [hn] at g1; cases g1
            obtain ⟨a2, b2, g1, _, _, g5, _⟩ := may_get hp j (List.getElem?_eq_some_iff.1 hj).1
            rw [hj] at g1; cases g1
            have e1 := may_home hp n _ _ hn t.toNat (Nat.le_refl _) g4
            have e2 := may_home hp j _ _ hj t.toNat (Nat.le_refl _) g5
            rw [e1] at e2; cases e2
            rw [hn] at hj; cases hj
            exact ⟨rfl, rfl⟩
          have hjl := (List.getElem?_eq_some_iff.1 hj).1
          obtain ⟨_, _, gj1, -, -, gj4, gj5⟩ := may_get hp j hjl
          rw [hj] at gj1; cases gj1
          have hbgj := may_beg hp j _ _ hj
          have hchj := hch.step hp hjc hjl
          have hdep2 := hchj.depth hp
          rw [hSL] at hjl huniq hdep2
          have hj' := hj
          rw [hSL] at hj'
          have ci00 := (hC.ok ci (List.mem_of_getElem? hci)).1
          have hc2 : (ci % 2 == 1) = true := by rw [hodd]; rfl
          have hc3 : (ci.tmod 2 == 1) = true := by rw [Int.tmod_eq_emod_of_nonneg ci00, hodd]; rfl
          have rk7 := rk
          rw [hk7] at rk7
          obtain ⟨bD, oD, hpD, hcD, _, hlD⟩ := (hC.gr hb4).get hci
          subst hpD
          have ed : IntKind.i64.wrap ((d : Int) + 1) = (d : Int) + 1 := IntWalk.i64_in _ (by omega)
          replace hodd : True := trivial
          replace hcm : True := trivial
          replace huniq : Hid (∀ (n yn : Nat), SL[n]? = some (t.toNat, yn) → n = j ∧ yn = y') := huniq
          replace hj : Hid ((slM L)[j]? = some (t.toNat, y')) := hj
          replace hj' : Hid (SL[j]? = some (t.toNat, y')) := hj'
          go_upto_region 18 with first | (go_at_call 10; refine k10.mono ?_; rintro e w9 ⟨rfl, hg9⟩; obtain ⟨z0, z1, z2, z3, z4⟩ := hcel w9 (hg4.below.trans (hg9.below.mono hg4.below.size))) | (go_at_call 24; refine (rk7 _).mono ?_; rintro e w5 ⟨rfl, hg59⟩; have hg5 := hg9.trans hg59; have hcD5 := (hg5.below.cell (p := ⟨bD, oD + i, none⟩) hlD).trans hcD)
          have hb5 := hb4.trans (hg5.below.mono hb4.size)
          have hbox5 := (hg5.below.block _ (ch_lt hbox4)).trans hbox4
          have hS5 := hS4.gr hg5.below
          clear hcD5 z0 z1 z2 z3 z4
          go_wp2_with fail
          go_loopw [16, 17] (fun f k wq => ∃ n : Nat, k = .int .i64 n ∧ ((f = .bool false ∧ n ≤ j ∧ wq.heap[A]? = some (.cells #[.int .i64 x, .int .i64 y] 49)) ∨ (f = .bool true ∧ n ≤ SL.length ∧ wq.heap[A]? = some (.cells #[.int .i64 t, .int .i64 y'] 49))) ∧ SubsAt wq sb (.slice (some ⟨sb, 0, none⟩) SL.length cs) SL ∧ Below w.heap.size w wq) (fun f k _ => SL.length - (intOf k).toNat)
          case atStart => exact ⟨0, rfl, .inl ⟨rfl, Nat.zero_le _, hbox5⟩, hS5, hb5⟩
          case round =>
            clear hbox5 hS5 hb5
            obtain ⟨n, rfl, hcase, hSq, hbq⟩ := hrel
            rcases hcase with ⟨rfl, hnj, hbx⟩ | ⟨rfl, hnl, hbx⟩
            · have hnl : n < SL.length := by omega
              obtain ⟨sx, hsx⟩ : ∃ sx, SL[n]? = some sx := ⟨SL[n], by simp [hnl]⟩
              obtain ⟨c0, c1⟩ := hSq.cell n sx hsx
              have dn : decide ((n : Int) < SL.length) = true := by simp; omega
              have dn2 : decide ((0 : Int) ≤ (n : Int) ∧ (n : Int) < (SL.length : Int)) = true := by simp; omega
              have en : IntKind.i64.wrap ((n : Int) + 1) = (n : Int) + 1 := IntWalk.i64_in _ (by omega)
              by_cases hnj2 : n = j
              · have hst : sx = (t.toNat, y') := by
                  have h1 := hj'.out
                  rw [← hnj2, hsx] at h1
                  cases h1; rfl
                subst hst
                have hqt : (((t.toNat : Nat) : Int) == t) = true := by simp; omega
                have fz0 : wr.frozen? ⟨A, 0, none⟩ = false := by unfold World.frozen?; rw [hbx]; rfl
                have fz1 : wr.frozen? ⟨A, 1, none⟩ = false := by unfold World.frozen?; rw [hbx]; rfl
                have bx0 : wr.cell? ⟨A, 0, none⟩ = some (.int .i64 x) := by unfold World.cell?; rw [hbx]; rfl
                have bx1 : wr.cell? ⟨A, 1, none⟩ = some (.int .i64 y) := by unfold World.cell?; rw [hbx]; rfl
                dsimp only at c0 c1
                rw [Int.toNat_of_nonneg ht0] at c0
                replace hnj2 : Hid (n = j) := hnj2
                clear hqt
                go_wp2_with fail
                have hbx2 : ((wr.setCell ⟨A, 0, none⟩ (.int .i64 t)).setCell ⟨A, 1, none⟩ (.int .i64 y')).heap[A]? = some (.cells #[.int .i64 t, .int .i64 y'] 49) := by
                  simp [World.setCell, Array.getElem?_modify, hbx]
                have hbl2 : Below A wr ((wr.setCell ⟨A, 0, none⟩ (.int .i64 t)).setCell ⟨A, 1, none⟩ (.int .i64 y')) := ((Below.refl A wr).setCell (Nat.le_refl _) _).setCell (Nat.le_refl _) _
                have hSq2 : SubsAt ((wr.setCell ⟨A, 0, none⟩ (.int .i64 t)).setCell ⟨A, 1, none⟩ (.int .i64 y')) sb (.slice (some ⟨sb, 0, none⟩) SL.length cs) SL := by
                  have hblk : ∀ k, k ≠ A → ((wr.setCell ⟨A, 0, none⟩ (.int .i64 t)).setCell ⟨A, 1, none⟩ (.int .i64 y')).heap[k]? = wr.heap[k]? := fun k hk => (Below.heap_setCell _ ⟨A, 1, none⟩ _ k hk).trans (Below.heap_setCell _ ⟨A, 0, none⟩ _ k hk)
                  refine ⟨hSq.val, Nat.lt_of_lt_of_le hSq.lt hbl2.size, hSq.len, hSq.small, fun j x hx => ?_⟩
                  have hh := hblk sb (Ne.symm hAs)
                  obtain ⟨q0, q1⟩ := hSq.cell j x hx
                  exact ⟨(World.cell?_of_block hh).trans q0, (World.cell?_of_block hh).trans q1⟩
                exact ⟨⟨n + 1, by simp, .inr ⟨rfl, by omega, hbx2⟩, hSq2, hbq.trans (hbl2.mono hAw)⟩, by simp [intOf]; omega⟩
              · have hqf : ((sx.1 : Int) == t) = false := by
                  rw [beq_eq_false_iff_ne]
                  intro e
                  have e2 : sx.1 = t.toNat := by omega
                  exact hnj2 (huniq.out n sx.2 (by rw [hsx, ← e2])).1
                go_wp2_with fail
                exact ⟨⟨n + 1, by simp, .inl ⟨rfl, by omega, hbx⟩, hSq, hbq⟩, by simp [intOf]; omega⟩
            · have ett : ((t.toNat : Nat) : Int) = t := Int.toNat_of_nonneg ht0
              by_cases hnn : n < SL.length
              · have dn : decide ((n : Int) < SL.length) = true := by simp; omega
                go_wp2_with fail
                exact ⟨⟨t.toNat, d + 1, i + 1, j, t.toNat, y', j :: pth, by rw [ett], by simp, by simp, by omega, hj.out, Nat.le_refl _, gj4, hbgj, hchj, by rw [ett]; exact hbx, hSq, hbq⟩, by simp [intOf]; omega⟩
              · have dn : decide ((n : Int) < SL.length) = false := by simp; omega
                go_wp2_with fail
                exact ⟨⟨t.toNat, d + 1, i + 1, j, t.toNat, y', j :: pth, by rw [ett], by simp, by simp, by omega, hj.out, Nat.le_refl _, gj4, hbgj, hchj, by rw [ett]; exact hbx, hSq, hbq⟩, by simp [intOf]; omega⟩
        · cases cm with
          | none =>
            dsimp only at k10
            go_upto_region 29 with first | (go_at_call 10; refine k10.mono ?_; rintro e w5 ⟨rfl, hg5⟩)
            have hb5 := hb4.trans (hg5.below.mono hb4.size)
            have hbox5 := (hg5.below.block _ (ch_lt hbox4)).trans hbox4
            have hS5 := hS4.gr hg5.below
            have k18 := next_any AnyB _ L u w5 (hL4.gr hg5.below)
            have h45 := hg4.below.trans (hg5.below.mono hg4.below.size)
            by_cases hnx : nextM L u = []
            · have hk8 : s.k = 8 := by
                have h8 := may_exit hp u hbg (List.eq_nil_iff_forall_not_mem.2 fun x hx => by have := next_mem.2 hx; rw [hnx] at this; cases this)
                rw [kindM, hs] at h8; exact h8
              rw [hk8] at rk
              go_wp2_with first | (go_at_call 18; refine k18.mono ?_; rintro e w6 ⟨v6, rfl, how⟩; have h46 := h45.trans (how.2.mono h45.size); obtain ⟨z0, z1, z2, z3, z4⟩ := hcel w6 h46; have hb6 := hb5.trans (how.2.mono hb5.size); obtain ⟨p6, c6, rfl⟩ := own_nil how hnx) | (go_at_call 24; refine (rk _).mono ?_; rintro e w7 ⟨rfl, hg7⟩; have hb7 := hb6.trans (hg7.below.mono hb6.size)) | (go_at_call 7; refine (hal _).mono ?_; rintro e w8 ⟨rfl, hb8⟩)
              try rw [Exit.noGoto_ret]
              go_returns
              exact ⟨rfl, hb7.trans (hb8.mono hb7.size)⟩
            · obtain ⟨bC, oC, rfl, hcC, _, hlC⟩ := (hC.gr hb5).get hci
              obtain ⟨ci0, ci1⟩ := hC.ok ci (List.mem_of_getElem? hci)
              have hpos6 : 0 < (nextM L u).length := List.length_pos_iff.2 hnx
              obtain ⟨ri, hri, hri2⟩ : ∃ ri : Nat, ci.tmod ((nextM L u).length : Int) = ri ∧ ri < (nextM L u).length := ⟨(ci.tmod ((nextM L u).length : Int)).toNat, by
                rw [Int.tmod_eq_emod_of_nonneg ci0]
                have h1 := Int.emod_nonneg ci (show ((nextM L u).length : Int) ≠ 0 by omega)
                have h2 := Int.emod_lt_of_pos ci (show (0 : Int) < (nextM L u).length by omega)
                omega⟩
              obtain ⟨nx, hnx2⟩ : ∃ nx, (nextM L u)[ri]? = some nx := ⟨_, List.getElem?_eq_getElem hri2⟩
              obtain ⟨n0, n1, n2, n3⟩ := may_leads hp cur x y hcur u hxu huy hbg nx (next_mem.1 (List.mem_of_getElem? hnx2))
              have m0 : (((nextM L u).length : Int) == 0) = false := by rw [beq_eq_false_iff_ne]; omega
              have e9 : IntKind.i64.wrap ((i : Int) + 1) = (i : Int) + 1 := IntWalk.i64_in _ (by omega)
              generalize nextM L u = NX at k18 hri hri2 hnx2 m0 hpos6
              go_wp2_with first | (go_at_call 18; refine k18.mono ?_; rintro e w6 ⟨v6, rfl, how⟩; have hb6 := hb5.trans (how.2.mono hb5.size); obtain ⟨g6, c6, rfl, hget⟩ := own_get how (List.length_pos_iff.1 hpos6); have hg6 := hget ri nx hnx2; have hcC6 := (how.2.cell (p := ⟨bC, oC + i, none⟩) hlC).trans hcC)
              have enx : NX[ri] = nx := (List.getElem?_eq_some_iff.1 hnx2).2
              exact ⟨⟨nx.toNat, d, i + 1, cur, x, y, pth, by rw [enx]; congr 1; omega, rfl, by simp, by omega, hcur, n1, n2, n3, hch, (how.2.block _ (ch_lt hbox5)).trans hbox5, hS5.gr how.2, hb6⟩, by simp [intOf]; omega⟩
          | some t =>
            dsimp only at k10
            by_cases hk7 : s.k = 7
            · have hc2 : (ci % 2 == 1) = false := by
                rw [beq_eq_false_iff_ne]
                exact fun h => hfol ⟨t, rfl, hk7, h⟩
              have ci00 := (hC.ok ci (List.mem_of_getElem? hci)).1
              have hc3 : (ci.tmod 2 == 1) = false := by rw [Int.tmod_eq_emod_of_nonneg ci00]; exact hc2
              have rk7 := rk
              rw [hk7] at rk7
              obtain ⟨bD, oD, hpD, hcD, _, hlD⟩ := (hC.gr hb4).get hci
              subst hpD
              go_upto_region 29 with first | (go_at_call 10; refine k10.mono ?_; rintro e w9 ⟨rfl, hg9⟩; obtain ⟨z0, z1, z2, z3, z4⟩ := hcel w9 (hg4.below.trans (hg9.below.mono hg4.below.size))) | (go_at_call 24; refine (rk7 _).mono ?_; rintro e w5 ⟨rfl, hg59⟩; have hg5 := hg9.trans hg59; have hcD5 := (hg5.below.cell (p := ⟨bD, oD + i, none⟩) hlD).trans hcD)
              have hb5 := hb4.trans (hg5.below.mono hb4.size)
              have hbox5 := (hg5.below.block _ (ch_lt hbox4)).trans hbox4
              have hS5 := hS4.gr hg5.below
              have k18 := next_any AnyB _ L u w5 (hL4.gr hg5.below)
              have h45 := hg4.below.trans (hg5.below.mono hg4.below.size)
              by_cases hnx : nextM L u = []
              · have hk8 : s.k = 8 := by
                  have h8 := may_exit hp u hbg (List.eq_nil_iff_forall_not_mem.2 fun x hx => by have := next_mem.2 hx; rw [hnx] at this; cases this)
                  rw [kindM, hs] at h8; exact h8
                exact absurd hk8 (by rw [hk7]; decide)
              · have hlC : bD < w5.heap.size := Nat.lt_of_lt_of_le hlD hg5.below.size
                obtain ⟨ci0, ci1⟩ := hC.ok ci (List.mem_of_getElem? hci)
                have hpos6 : 0 < (nextM L u).length := List.length_pos_iff.2 hnx
                obtain ⟨ri, hri, hri2⟩ : ∃ ri : Nat, ci.tmod ((nextM L u).length : Int) = ri ∧ ri < (nextM L u).length := ⟨(ci.tmod ((nextM L u).length : Int)).toNat, by
                  rw [Int.tmod_eq_emod_of_nonneg ci0]
                  have h1 := Int.emod_nonneg ci (show ((nextM L u).length : Int) ≠ 0 by omega)
                  have h2 := Int.emod_lt_of_pos ci (show (0 : Int) < (nextM L u).length by omega)
                  omega⟩
                obtain ⟨nx, hnx2⟩ : ∃ nx, (nextM L u)[ri]? = some nx := ⟨_, List.getElem?_eq_getElem hri2⟩
                obtain ⟨n0, n1, n2, n3⟩ := may_leads hp cur x y hcur u hxu huy hbg nx (next_mem.1 (List.mem_of_getElem? hnx2))
                have m0 : (((nextM L u).length : Int) == 0) = false := by rw [beq_eq_false_iff_ne]; omega
                have e9 : IntKind.i64.wrap ((i : Int) + 1) = (i : Int) + 1 := IntWalk.i64_in _ (by omega)
                generalize nextM L u = NX at k18 hri hri2 hnx2 m0 hpos6
                go_wp2_with first | (go_at_call 18; refine k18.mono ?_; rintro e w6 ⟨v6, rfl, how⟩; have hb6 := hb5.trans (how.2.mono hb5.size); obtain ⟨g6, c6, rfl, hget⟩ := own_get how (List.length_pos_iff.1 hpos6); have hg6 := hget ri nx hnx2; have hcC6 := (how.2.cell (p := ⟨bD, oD + i, none⟩) hlC).trans hcD5)
                have enx : NX[ri] = nx := (List.getElem?_eq_some_iff.1 hnx2).2
                exact ⟨⟨nx.toNat, d, i + 1, cur, x, y, pth, by rw [enx]; congr 1; omega, rfl, by simp, by omega, hcur, n1, n2, n3, hch, (how.2.block _ (ch_lt hbox5)).trans hbox5, hS5.gr how.2, hb6⟩, by simp [intOf]; omega⟩
            · have hk7' : (s.k == 7) = false := by rw [beq_eq_false_iff_ne]; exact hk7
              go_upto_region 29 with first | (go_at_call 10; refine k10.mono ?_; rintro e w9 ⟨rfl, hg9⟩; obtain ⟨z0, z1, z2, z3, z4⟩ := hcel w9 (hg4.below.trans (hg9.below.mono hg4.below.size))) | (go_at_call 24; refine (rk _).mono ?_; rintro e w5 ⟨rfl, hg59⟩; have hg5 := hg9.trans hg59)
              have hb5 := hb4.trans (hg5.below.mono hb4.size)
              have hbox5 := (hg5.below.block _ (ch_lt hbox4)).trans hbox4
              have hS5 := hS4.gr hg5.below
              have k18 := next_any AnyB _ L u w5 (hL4.gr hg5.below)
              have h45 := hg4.below.trans (hg5.below.mono hg4.below.size)
              by_cases hnx : nextM L u = []
              · have hk8 : s.k = 8 := by
                  have h8 := may_exit hp u hbg (List.eq_nil_iff_forall_not_mem.2 fun x hx => by have := next_mem.2 hx; rw [hnx] at this; cases this)
                  rw [kindM, hs] at h8; exact h8
                rw [hk8] at rk
                go_wp2_with first | (go_at_call 18; refine k18.mono ?_; rintro e w6 ⟨v6, rfl, how⟩; have h46 := h45.trans (how.2.mono h45.size); obtain ⟨z0, z1, z2, z3, z4⟩ := hcel w6 h46; have hb6 := hb5.trans (how.2.mono hb5.size); obtain ⟨p6, c6, rfl⟩ := own_nil how hnx) | (go_at_call 24; refine (rk _).mono ?_; rintro e w7 ⟨rfl, hg7⟩; have hb7 := hb6.trans (hg7.below.mono hb6.size)) | (go_at_call 7; refine (hal _).mono ?_; rintro e w8 ⟨rfl, hb8⟩)
                try rw [Exit.noGoto_ret]
                go_returns
                exact ⟨rfl, hb7.trans (hb8.mono hb7.size)⟩
              · obtain ⟨bC, oC, rfl, hcC, _, hlC⟩ := (hC.gr hb5).get hci
                obtain ⟨ci0, ci1⟩ := hC.ok ci (List.mem_of_getElem? hci)
                have hpos6 : 0 < (nextM L u).length := List.length_pos_iff.2 hnx
                obtain ⟨ri, hri, hri2⟩ : ∃ ri : Nat, ci.tmod ((nextM L u).length : Int) = ri ∧ ri < (nextM L u).length := ⟨(ci.tmod ((nextM L u).length : Int)).toNat, by
                  rw [Int.tmod_eq_emod_of_nonneg ci0]
                  have h1 := Int.emod_nonneg ci (show ((nextM L u).length : Int) ≠ 0 by omega)
                  have h2 := Int.emod_lt_of_pos ci (show (0 : Int) < (nextM L u).length by omega)
                  omega⟩
                obtain ⟨nx, hnx2⟩ : ∃ nx, (nextM L u)[ri]? = some nx := ⟨_, List.getElem?_eq_getElem hri2⟩
                obtain ⟨n0, n1, n2, n3⟩ := may_leads hp cur x y hcur u hxu huy hbg nx (next_mem.1 (List.mem_of_getElem? hnx2))
                have m0 : (((nextM L u).length : Int) == 0) = false := by rw [beq_eq_false_iff_ne]; omega
                have e9 : IntKind.i64.wrap ((i : Int) + 1) = (i : Int) + 1 := IntWalk.i64_in _ (by omega)
                generalize nextM L u = NX at k18 hri hri2 hnx2 m0 hpos6
                go_wp2_with first | (go_at_call 18; refine k18.mono ?_; rintro e w6 ⟨v6, rfl, how⟩; have hb6 := hb5.trans (how.2.mono hb5.size); obtain ⟨g6, c6, rfl, hget⟩ := own_get how (List.length_pos_iff.1 hpos6); have hg6 := hget ri nx hnx2; have hcC6 := (how.2.cell (p := ⟨bC, oC + i, none⟩) hlC).trans hcC)
                have enx : NX[ri] = nx := (List.getElem?_eq_some_iff.1 hnx2).2
                exact ⟨⟨nx.toNat, d, i + 1, cur, x, y, pth, by rw [enx]; congr 1; omega, rfl, by simp, by omega, hcur, n1, n2, n3, hch, (how.2.block _ (ch_lt hbox5)).trans hbox5, hS5.gr how.2, hb6⟩, by simp [intOf]; omega⟩
      · have d7 : decide ((i : Int) < C.length) = false := by simp; omega
        go_wp2_with first | (go_at_call 7; refine (hal _).mono ?_; rintro e w4 ⟨rfl, hb4⟩)
        go_returns
        exact ⟨rfl, hbr.trans (hb4.mono hbr.size)⟩
  · have hq : (((chkM L).2 : Int) != 0) = true := by simpa using hz
    go_enter Tryz.func5, Tryz.ntmps5
    go_wp2_with first | (go_at_call 20; refine kc.mono ?_; rintro e w1 ⟨v, rfl, _, h2, hb⟩; obtain rfl := h2 hz) | (go_at_call 7; refine (hal _).mono ?_; rintro e w2 ⟨rfl, hb2⟩)
    go_returns
    exact ⟨rfl, hb.trans (hb2.mono hb.size)⟩
end Go.Proofs.YtdmdmbcapjmnlaaGreat
