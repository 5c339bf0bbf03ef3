/- Towards HeapPlays: does. Towards HeapPlays: Live, New, and both heaps in the loop. Towards HeapPlays: a handle more among those that were made; the handle's box written. -/
import Derived.Test.YtooblonafnlfcaaDoorDMN
import Derived.Test.YtooblonafnlfcaaDoorPH
import Derived.Deep.RegionHeld3
import Derived.Test.YtooblonafnlfcaaDoorPW
import Derived.Test.YtooblonafnlfcaaDoorHF
section
namespace Go.Proofs.YtooblonafnlfcaaDoor
open Go.ChangeShapes Go.WideShapes Go.ChangeAt Go.RowKit
set_option linter.unusedVariables false
set_option linter.unusedSimpArgs false
set_option maxRecDepth 20000
theorem cell_dr14 {w : World} {p : Addr} {v : Value} (h : w.cell? p = some v) : w.drew.cell? p = some v := h
/-- Both heaps behind a call, of the same objects. -/
def Bd (w w' : World) (B : Nat) (q : HQ) (b r t : Nat) (room : Int) (N : Int → Nat) (vX vT : Value) (n m : Nat) : Prop :=
  (∃ (used : Int) (M : MJ) (ns : Nat) (A K : Nat → Nat) (O : List Do) (X : List H.HKey) (vO vS vX' vT' : Value), Hp (fun _ => False) w' B q room used N M ns A K n ∧ Oh w' B b r t room used M N O X vO vS vX' vT' m ∧ Kd vX vT w w' vX' vT') ∧ Below B w w'
set_option maxHeartbeats 4000000 in
theorem hdoes_any (w : World) (B : Nat) (q : HQ) (b r t : Nat) (room used : Int) (N : Int → Nat) (M : MJ) (ns : Nat) (A K : Nat → Nat) (O : List Do) (X : List H.HKey) (vO vS vX vT : Value) (n m : Nat)
    (hp : Hp (fun _ => False) w B q room used N M ns A K n) (ho : Oh w B b r t room used M N O X vO vS vX vT m) (hT : Tab w) (h0 : 0 < B) (hn : n + 1 ≤ 900) (x : Sp) (hx : SpOk x) (s : Int) (g : Nat) :
    Calls Tryd.prog 15 #[.pointer (some ⟨q.b, 0, none⟩), .pointer (some ⟨b, 0, none⟩), spV x, .agg #[.int .i64 s, .int .u64 g]] w fun e w' => e = .returned (.bool true) ∧ Bd w w' B q b r t room N vX vT (n + 1) m := by
  have hBw := hp.size
  have hb1 := (Below.refl _ w).alloc (Nat.le_refl _) (.cells (spC x) 36)
  have hb2 := hb1.alloc hb1.size (.cells #[.int .i64 s, .int .u64 g] 34)
  have y1 := (Below.refl (w.alloc (.cells (spC x) 36)).heap.size (w.alloc (.cells (spC x) 36))).alloc (Nat.le_refl _) (.cells #[.int .i64 s, .int .u64 g] 34)
  have z1h := (y1.block w.heap.size (by simp)).trans (heap_alloc_new w (.cells (spC x) 36))
  have z2h := heap_alloc_new (w.alloc (.cells (spC x) 36)) (.cells #[.int .i64 s, .int .u64 g] 34)
  have hP := (hp.kept hb2).more (Nat.le_succ n) (by omega)
  have hO := ho.below hb2
  have hK : Kd vX vT w ((w.alloc (.cells (spC x) 36)).alloc (.cells #[.int .i64 s, .int .u64 g] 34)) vX vT := Kd.bel hb2
  have hTW := hT.gr h0 (hb2.mono hBw)
  have hbB := hb2.mono hBw
  have hzX : (∀ g, vX.ownBlock = some g → g < w.heap.size) ∧ ∀ g, vT.ownBlock = some g → g < w.heap.size := by
    obtain ⟨T, t1, _, _⟩ := ho.tb.ex
    exact ⟨fun g e => (t1.rowX.lt g e).2, fun g e => (t1.rowT.lt g e).2⟩
  have hz2 : (w.alloc (.cells (spC x) 36)).heap.size = w.heap.size + 1 := by simp
  rw [hz2] at z2h
  have hcn : ctM M s g + 1 ≤ (n + 1 : Nat) := by
    unfold ctM
    split
    · cases hM : getM M s with
      | none => simp; omega
      | some o =>
        by_cases hs : s < 0
        · simp [getM, hs] at hM
        · have := (hp.ow.ob s.toNat o (by simpa [getM, hs] using hM)).2.2.2.1
          simp; omega
    · omega
  go_enter Tryd.func15, Tryd.ntmps15
  go_upto_region 1 with fail
  obtain ⟨xd, xo, xk, xa, xn, xs, xh, xg⟩ := x
  simp only [spC, spV] at *
  generalize (w.alloc (.cells #[.int .i64 xd, .int .i64 xo, .int .i64 xk, .int .i64 xa, .int .i64 xn, .string xs, .int .i64 xh, .int .u64 xg] 36)).alloc (.cells #[.int .i64 s, .int .u64 g] 34) = W at z1h z2h hP hO hK hTW hbB ⊢
  have hk1 : ∀ {u : World} {vX' vT' : Value}, Kd vX vT W u vX' vT' → _ := fun {u} {vX'} {vT'} k => k.keep _ _ 36 (.inl rfl) (fun e => by have := hzX.1 _ e.symm; omega) (fun e => by have := hzX.2 _ e.symm; omega) z1h
  have hk2 : ∀ {u : World} {vX' vT' : Value}, Kd vX vT W u vX' vT' → _ := fun {u} {vX'} {vT'} k => k.keep _ _ 34 (.inr rfl) (fun e => by have := hzX.1 _ e.symm; omega) (fun e => by have := hzX.2 _ e.symm; omega) z2h
  have hcs : ∀ k o, M k = some o → 0 ≤ o.c ∧ o.c ≤ 90000 := fun k o e => by
    obtain ⟨-, -, c0, c1, -⟩ := hp.ow.ob k o e
    omega
  have z0 := cell_of z1h 0
  simp at z0
  obtain ⟨hxd, hxo, hxk, hxa, hxn, hxs, hxh⟩ := hx
  simp only at hxd hxo hxk hxa hxn hxs hxh
  have hPd := hP.kept (Below.refl _ W).drew
  have hOd := hO.below (Below.refl _ W).drew
  have hKd : Kd vX vT W W.drew vX vT := Kd.bel (Below.refl _ W).drew
  have hTd := hTW.gr h0 (Below.refl B W).drew
  by_cases e1 : xd = 1
  · subst e1
    have kA := ho_any W B q room used N M ns A K (n + 1) hP s g hcn
    have y0 := cell_of z2h 0
    have y1 := cell_of z2h 1
    simp at y0 y1
    go_upto_region 4 with (go_at_call 23; go_loud (refine kA.mono ?_; rintro e w1 ⟨rfl, hP1, hF1⟩))
    have hO1 := hO.fq hP hF1
    have hk : Kd vX vT W w1 vX vT := Kd.fq hP hF1
    have y2 := hk2 hk
    clear y0 y1 kA
    have y0 := cell_of y2 0
    have y1 := cell_of y2 1
    simp at y0 y1
    have kB := oho_any hO1 hcs s g
    go_upto_region 5 with (go_at_call 36; go_loud (refine kB.mono ?_; rintro e w2 ⟨rfl, ⟨⟨O', X', vO', vS', vX', vT', hO2, hkB⟩, hb2', htr⟩⟩))
    have hP2 := htr _ _ _ _ _ _ _ _ _ _ hP1
    clear kB y0 y1
    have dd : ∀ c : Int, (c == c) = true := fun c => by simp
    go_wp2
    all_goals go_returns
    all_goals exact ⟨rfl, ⟨used, _, ns, A, K, O', X', vO', vS', vX', vT', hP2, hO2, hK.trans (hk.trans hkB)⟩, (hbB.trans hF1.bel).trans hb2'⟩
  by_cases e2 : xd = 2
  · subst e2
    have kA := dr_any W B q room used N M ns A K (n + 1) hP s g
    have y0 := cell_of z2h 0
    have y1 := cell_of z2h 1
    simp at y0 y1
    go_upto_region 8 with (go_at_call 24; go_loud (refine kA.mono ?_; rintro e w1 ⟨rfl, hP1, hF1⟩))
    have hO1 := hO.fq hP hF1
    have hk : Kd vX vT W w1 vX vT := Kd.fq hP hF1
    have y2 := hk2 hk
    clear y0 y1 kA
    have y0 := cell_of y2 0
    have y1 := cell_of y2 1
    simp at y0 y1
    have kB := odr_any hO1 hcs s g
    go_upto_region 9 with (go_at_call 37; go_loud (refine kB.mono ?_; rintro e w2 ⟨rfl, ⟨⟨O', X', vO', vS', vX', vT', hO2, hkB⟩, hb2', htr⟩⟩))
    have hP2 := htr _ _ _ _ _ _ _ _ _ _ hP1
    clear kB y0 y1
    have dd : ∀ c : Int, (c == c) = true := fun c => by simp
    go_wp2
    all_goals go_returns
    all_goals exact ⟨rfl, ⟨used, _, ns, A, K, O', X', vO', vS', vX', vT', hP2, hO2, hK.trans (hk.trans hkB)⟩, (hbB.trans hF1.bel).trans hb2'⟩
  by_cases e3 : xd = 3
  · subst e3
    have kA := fr_any W.drew B q room used N M ns A K (n + 1) hPd hTd h0 s g
    have y0 := cell_of z2h 0
    have y1 := cell_of z2h 1
    simp at y0 y1
    have dd : (frE M s g == frE M s g) = true := by simp
    go_upto_region 11 with fail
    go_region_held3 (fun w' => w'.cell? ⟨w.heap.size + 1, 0, none⟩ = some (.int .i64 s) ∧ w'.cell? ⟨w.heap.size + 1, 1, none⟩ = some (.int .u64 g)) ((refine ⟨?_, ?_⟩ <;> repeat (with_reducible (first | assumption | apply cell_dr14)))) (first
      | (go_at_call 25; go_loud (refine kA.mono ?_; rintro e w1 ⟨rfl, hP1, hF1⟩; have hO1 := hOd.fq hPd hF1; have hk : Kd vX vT W w1 vX vT := hKd.trans (Kd.fq hPd hF1); have yy := hk2 hk; have t0 := cell_of yy 0; have t1 := cell_of yy 1; simp at t0 t1; have kB := ofr_any hO1 s g))
      | (go_at_call 38; go_loud (refine kB.mono ?_; rintro e w2 ⟨rfl, ⟨⟨O', X', vO', vS', vX', vT', hO2, hkB⟩, hb2', htr⟩⟩; have hkk := hk.trans hkB; have yz := hk2 hkk; have u0 := cell_of yz 0; have u1 := cell_of yz 1; simp at u0 u1)))
    all_goals go_wp2
    all_goals go_returns
    all_goals
      have hP2 := htr _ _ _ _ _ _ _ _ _ _ hP1
      exact ⟨rfl, ⟨_, _, ns, A, K, O', X', vO', vS', vX', vT', hP2, hO2, hK.trans hkk⟩, (hbB.drew.trans hF1.bel).trans hb2'⟩
  by_cases e4 : xd = 4
  · subst e4
    have kA := hread_any W B q room used N M ns A K (n + 1) hP s g xa xn hxa hxn
    have y0 := cell_of z2h 0
    have y1 := cell_of z2h 1
    have y3 := cell_of z1h 3
    have y4 := cell_of z1h 4
    simp at y0 y1 y3 y4
    go_upto_region 14 with (go_at_call 26; go_loud (refine kA.mono ?_; rintro e w1 ⟨rfl, hbA⟩))
    have hO1 := hO.below hbA
    have hP1 := hP.kept hbA
    have hk : Kd vX vT W w1 vX vT := Kd.bel hbA
    have ya := hk2 hk
    have yb := hk1 hk
    clear y0 y1 y3 y4 kA
    have y0 := cell_of ya 0
    have y1 := cell_of ya 1
    have y3 := cell_of yb 3
    have y4 := cell_of yb 4
    simp at y0 y1 y3 y4
    have kB := ord_any hO1 s g xa xn hxa hxn
    go_upto_region 15 with (go_at_call 39; go_loud (refine kB.mono ?_; rintro e w2 ⟨rfl, hbB2⟩))
    clear kB y0 y1 y3 y4
    have dd : ∀ c : Int, (c == c) = true := fun c => by simp
    go_wp2
    all_goals go_returns
    all_goals exact ⟨rfl, ⟨used, M, ns, A, K, O, X, vO, vS, vX, vT, hP1.kept hbB2, hO1.below hbB2, hK.trans (hk.trans (Kd.bel hbB2))⟩, (hbB.trans (hbA.mono hP.size)).trans (hbB2.mono hP1.size)⟩
  by_cases e5 : xd = 5
  · subst e5
    have kA := wt_any W.drew B q room used N M ns A K (n + 1) hPd s g xa xs hxa hxs
    have y0 := cell_of z2h 0
    have y1 := cell_of z2h 1
    have y3 := cell_of z1h 3
    have y5 := cell_of z1h 5
    simp at y0 y1 y3 y5
    have dd : (wtE M s g xa xs == wtE M s g xa xs) = true := by simp
    go_upto_region 17 with fail
    go_region_held3 (fun w' => w'.cell? ⟨w.heap.size + 1, 0, none⟩ = some (.int .i64 s) ∧ w'.cell? ⟨w.heap.size + 1, 1, none⟩ = some (.int .u64 g) ∧ w'.cell? ⟨w.heap.size, 3, none⟩ = some (.int .i64 xa) ∧ w'.cell? ⟨w.heap.size, 5, none⟩ = some (.string xs)) ((refine ⟨?_, ?_, ?_, ?_⟩ <;> repeat (with_reducible (first | assumption | apply cell_dr14)))) (first
      | (go_at_call 27; go_loud (refine kA.mono ?_; rintro e w1 ⟨rfl, hP1, hF1⟩; have hO1 := hOd.fq hPd hF1; have hk : Kd vX vT W w1 vX vT := hKd.trans (Kd.fq hPd hF1); have ya := hk2 hk; have yb := hk1 hk; have t0 := cell_of ya 0; have t1 := cell_of ya 1; have t3 := cell_of yb 3; have t5 := cell_of yb 5; simp at t0 t1 t3 t5; have kB := owt_any hO1 s g xa xs hxa hxs))
      | (go_at_call 40; go_loud (refine kB.mono ?_; rintro e w2 ⟨rfl, ⟨⟨O', X', vO', vS', vX', vT', hO2, hkB⟩, hb2', htr⟩⟩; have hkk := hk.trans hkB; have yc := hk2 hkk; have yd := hk1 hkk; have u0 := cell_of yc 0; have u1 := cell_of yc 1; have u3 := cell_of yd 3; have u5 := cell_of yd 5; simp at u0 u1 u3 u5)))
    all_goals go_wp2
    all_goals go_returns
    all_goals
      have hP2 := htr _ _ _ _ _ _ _ _ _ _ hP1
      exact ⟨rfl, ⟨_, _, ns, A, K, O', X', vO', vS', vX', vT', hP2, hO2, hK.trans hkk⟩, (hbB.drew.trans hF1.bel).trans hb2'⟩
  have g1 : (xd == 1) = false := by simpa using e1
  have g2 : (xd == 2) = false := by simpa using e2
  have g3 : (xd == 3) = false := by simpa using e3
  have g4 : (xd == 4) = false := by simpa using e4
  have g5 : (xd == 5) = false := by simpa using e5
  go_wp2
  all_goals go_returns
  all_goals exact ⟨rfl, ⟨used, M, ns, A, K, O, X, vO, vS, vX, vT, hP, hO, hK⟩, hbB⟩
end Go.Proofs.YtooblonafnlfcaaDoor
end
section
namespace Go.Proofs.YtooblonafnlfcaaDoor
open Go.ChangeShapes Go.WideShapes Go.ChangeAt Go.RowKit
set_option linter.unusedVariables false
set_option linter.unusedSimpArgs false
set_option maxRecDepth 20000
theorem liv_eq {L : Int → Option Nat} {X : List H.HKey} {K : List Int} (hM : H.Mt X L) (hup : K.Pairwise (· < ·)) (hmem : ∀ k, k ∈ K ↔ (L k).isSome = true) : H.livL L K = X := by
  have h1 : (H.livL L K).Pairwise (fun a b => a.1 < b.1) := by
    rw [H.livL, List.pairwise_map]
    exact hup
  have hnd : ∀ l : List H.HKey, l.Pairwise (fun a b => a.1 < b.1) → l.Nodup := fun l hl => hl.imp fun {a b} hab e => by subst e; omega
  have hp : (H.livL L K).Perm X := by
    refine (List.perm_ext_iff_of_nodup (hnd _ h1) (hnd _ hM.up)).2 fun k => ?_
    obtain ⟨s, g⟩ := k
    rw [hM.mem, H.livL, List.mem_map]
    constructor
    · rintro ⟨k, hk, e⟩
      obtain ⟨g', hg'⟩ := Option.isSome_iff_exists.1 ((hmem k).1 hk)
      rw [hg'] at e
      cases e
      exact hg'
    · intro e
      exact ⟨s, (hmem s).2 (by rw [e]; rfl), by rw [e]; rfl⟩
  exact List.Perm.eq_of_pairwise (le := fun a b : H.HKey => a.1 < b.1) (fun a b _ _ h1 h2 => by omega) h1 hM.up hp
/-- Live tells the document's row. -/
theorem hlive_any (w : World) (B : Nat) (q : HQ) (room used : Int) (N : Int → Nat) (M : MJ) (ns : Nat) (A K : Nat → Nat) (n : Nat) (h : Hp (fun _ => False) w B q room used N M ns A K n) (X : List H.HKey) (hM : H.Mt X (lOf M)) :
    Calls Tryd.prog 22 #[.pointer (some ⟨q.b, 0, none⟩)] w fun e w' => ∃ (p : Option Addr) (c : Nat), e = .returned (.slice p X.length c) ∧ w'.ownsRow w.heap.size 34 2 (.slice p X.length c) X.length (H.hCells X) ∧ Below w.heap.size w w' := by
  have hc := h.ow.cells
  have c1 : w.cell? ⟨q.b, 1, none⟩ = some (.pointer (some ⟨q.t, 0, none⟩)) := by rw [cell_of hc]; rfl
  have c2 : w.cell? ⟨q.b, 2, none⟩ = some (.map (some q.m3)) := by rw [cell_of hc]; rfl
  have k1 := hmade_yes w q.b q.m3 c2
  have k2 := H.all_any w _ _ _ _ _ _ _ h.tb
  go_enter Tryd.func22, Tryd.ntmps22
  go_wp2_with (first | (go_at_call 31; refine k1.mono ?_; rintro e w' ⟨rfl, hw⟩; rw [hw]; clear hw) | (go_at_call 45; refine k2.mono ?_; rintro e w' ⟨v, KK, rfl, hup, hmem, hle, hrow, hb⟩))
  all_goals go_returns
  all_goals
    have hKX := liv_eq hM hup hmem
    have hKl : KK.length = X.length := by rw [← hKX]; simp [H.livL]
    rw [hKX, hKl] at hrow
    obtain ⟨p, c, rfl⟩ : ∃ p cap, v = .slice p X.length cap := H.own_shape hrow
    exact ⟨p, c, rfl, hrow, hb⟩
/-- The document's New. -/
theorem onew_any (w : World) (B : Nat) (hB : B ≤ w.heap.size) (room : Int) :
    Calls Tryd.prog 11 #[.int .i64 room] w fun e w' => ∃ b r t : Nat, e = .returned (.pointer (some ⟨b, 0, none⟩)) ∧ Oh w' B b r t room 0 (fun _ => none) (fun _ => 0) [] [] (.slice none 0 0) (.slice none 0 0) (.slice none 0 0) (.slice none 0 0) 0 ∧ Below w.heap.size w w' := by
  have hbe : Below w.heap.size w (((w.alloc (.cells #[.int .i64 room, .slice none 0 0] 80)).alloc (.cells #[.slice none 0 0, .slice none 0 0] 54)).alloc (.cells #[.pointer (some ⟨w.heap.size, 0, none⟩), .pointer (some ⟨w.heap.size + 1, 0, none⟩), .slice none 0 0] 50)) := ((((Below.refl _ w).alloc (Nat.le_refl _) _).alloc (by simp) _).alloc (by simp; omega) _)
  have y2 := heap_alloc_new ((w.alloc (.cells #[.int .i64 room, .slice none 0 0] 80)).alloc (.cells #[.slice none 0 0, .slice none 0 0] 54)) (.cells #[.pointer (some ⟨w.heap.size, 0, none⟩), .pointer (some ⟨w.heap.size + 1, 0, none⟩), .slice none 0 0] 50)
  have hs1 : (w.alloc (.cells #[.int .i64 room, .slice none 0 0] 80)).heap.size = w.heap.size + 1 := by simp
  have y1a := heap_alloc_new (w.alloc (.cells #[.int .i64 room, .slice none 0 0] 80)) (.cells #[.slice none 0 0, .slice none 0 0] 54)
  rw [hs1] at y1a
  have y1 := (Below.heap_alloc ((w.alloc (.cells #[.int .i64 room, .slice none 0 0] 80)).alloc (.cells #[.slice none 0 0, .slice none 0 0] 54)) (.cells #[.pointer (some ⟨w.heap.size, 0, none⟩), .pointer (some ⟨w.heap.size + 1, 0, none⟩), .slice none 0 0] 50) (w.heap.size + 1) (by simp)).trans y1a
  have y0 := ((Below.heap_alloc ((w.alloc (.cells #[.int .i64 room, .slice none 0 0] 80)).alloc (.cells #[.slice none 0 0, .slice none 0 0] 54)) (.cells #[.pointer (some ⟨w.heap.size, 0, none⟩), .pointer (some ⟨w.heap.size + 1, 0, none⟩), .slice none 0 0] 50) w.heap.size (by simp; omega)).trans (Below.heap_alloc (w.alloc (.cells #[.int .i64 room, .slice none 0 0] 80)) (.cells #[.slice none 0 0, .slice none 0 0] 54) w.heap.size (by simp))).trans (heap_alloc_new w (.cells #[.int .i64 room, .slice none 0 0] 80))
  have hs2 : ((w.alloc (.cells #[.int .i64 room, .slice none 0 0] 80)).alloc (.cells #[.slice none 0 0, .slice none 0 0] 54)).heap.size = w.heap.size + 2 := by simp
  rw [hs2] at y2
  have hO : Oh (((w.alloc (.cells #[.int .i64 room, .slice none 0 0] 80)).alloc (.cells #[.slice none 0 0, .slice none 0 0] 54)).alloc (.cells #[.pointer (some ⟨w.heap.size, 0, none⟩), .pointer (some ⟨w.heap.size + 1, 0, none⟩), .slice none 0 0] 50)) B (w.heap.size + 2) w.heap.size (w.heap.size + 1) room 0 (fun _ => none) (fun _ => 0) [] [] (.slice none 0 0) (.slice none 0 0) (.slice none 0 0) (.slice none 0 0) 0 :=
    ⟨y2, by omega, World.ownsRow_nil _ _ _ _, by simp, ⟨[], ⟨y0, hB, World.ownsRow_nil _ _ _ _, by simp, by simp⟩, ⟨by simp [bM], by simp⟩, rfl, by simp⟩, ⟨⟨[], ⟨y1, by omega, World.ownsRow_nil _ _ _ _, World.ownsRow_nil _ _ _ _, by simp [Value.ownBlock], by simp, by simp⟩, ⟨by simp, by simp, by simp⟩, by simp⟩, ⟨by simp [lOf_none], by simp⟩⟩, Mo.nil, by omega⟩
  go_enter Tryd.func11, Tryd.ntmps11
  go_wp2
  all_goals go_returns
  all_goals exact ⟨w.heap.size + 2, w.heap.size, w.heap.size + 1, by simp, hO, hbe⟩
/-- Both heaps in the loop, and the handles that were made. -/
structure Hy (w : World) (B : Nat) (q : HQ) (b r t : Nat) (room used : Int) (N : Int → Nat) (M : MJ) (ns : Nat) (A K : Nat → Nat) (O : List Do) (X : List H.HKey) (vO vS vX vT : Value) (Y : List H.HKey) (va : Value) (i : Nat) : Prop where
  hp : Hp (fun _ => False) w B q room used N M ns A K i
  oh : Oh w B b r t room used M N O X vO vS vX vT i
  tab : Tab w
  row : w.ownsRow B 34 2 va Y.length (H.hCells Y)
  len : Y.length ≤ i
  ap : ∀ g, va.ownBlock = some g → vX.ownBlock ≠ some g ∧ vT.ownBlock ≠ some g
  z : 0 < B
section
variable {w : World} {B : Nat} {q : HQ} {b r t : Nat} {room used : Int} {N : Int → Nat} {M : MJ} {ns : Nat} {A K : Nat → Nat} {O : List Do} {X : List H.HKey} {vO vS vX vT : Value} {Y : List H.HKey} {va : Value} {i : Nat}
theorem Hy.kept {w' : World} (h : Hy w B q b r t room used N M ns A K O X vO vS vX vT Y va i) (hb : Below w.heap.size w w') : Hy w' B q b r t room used N M ns A K O X vO vS vX vT Y va i :=
  ⟨h.hp.kept hb, h.oh.below hb, h.tab.gr h.z (hb.mono h.hp.size), row_kept h.row (fun g hg => hb.block _ (h.row.lt g hg).2), h.len, h.ap, h.z⟩
theorem Hy.more {i' : Nat} (h : Hy w B q b r t room used N M ns A K O X vO vS vX vT Y va i) (e : i ≤ i') (hn : i' ≤ 900) : Hy w B q b r t room used N M ns A K O X vO vS vX vT Y va i' :=
  ⟨h.hp.more e (by omega), h.oh.more e hn, h.tab, h.row, Nat.le_trans h.len e, h.ap, h.z⟩
/-- Behind calls of both. -/
theorem Hy.kd {w' : World} {used' : Int} {N' : Int → Nat} {M' : MJ} {ns' : Nat} {A' K' : Nat → Nat} {O' : List Do} {X' : List H.HKey} {vO' vS' vX' vT' : Value} {i' : Nat} (h : Hy w B q b r t room used N M ns A K O X vO vS vX vT Y va i)
    (hp : Hp (fun _ => False) w' B q room used' N' M' ns' A' K' i') (ho : Oh w' B b r t room used' M' N' O' X' vO' vS' vX' vT' i') (hk : Kd vX vT w w' vX' vT') (hb : Below B w w') (hi : i ≤ i') : Hy w' B q b r t room used' N' M' ns' A' K' O' X' vO' vS' vX' vT' Y va i' := by
  refine ⟨hp, ho, h.tab.gr h.z hb, row_kept h.row (fun g hg => ?_), Nat.le_trans h.len hi, fun g hg => ⟨fun e => ?_, fun e => ?_⟩, h.z⟩
  · obtain ⟨c, e⟩ := row_cells h.row hg
    rw [e]
    exact hk.keep g c 34 (.inr rfl) (fun e => (h.ap g hg).1 e.symm) (fun e => (h.ap g hg).2 e.symm) e
  · rcases hk.fX g e with q | q
    · exact (h.ap g hg).1 q
    · have := (h.row.lt g hg).2; omega
  · rcases hk.fT g e with q | q
    · exact (h.ap g hg).2 q
    · have := (h.row.lt g hg).2; omega
end
end Go.Proofs.YtooblonafnlfcaaDoor
end
section
namespace Go.Proofs.YtooblonafnlfcaaDoor
open Go.ChangeShapes Go.WideShapes Go.ChangeAt Go.RowKit
set_option linter.unusedVariables false
set_option linter.unusedSimpArgs false
set_option maxRecDepth 20000
theorem Hp.by34 {Yo : Nat → Prop} {w w' : World} {C : Nat} {q : HQ} {room' used : Int} {N' : Int → Nat} {M' : MJ} {ns : Nat} {A K : Nat → Nat} {n' : Nat} (hp : Hp Yo w C q room' used N' M' ns A K n') (hs : w.heap.size ≤ w'.heap.size)
    (key : ∀ {k : Nat} {o : Obj}, w.heap[k]? = some o → (∀ cs, o ≠ .cells cs 34 (0, 0)) → w'.heap[k]? = some o) : Hp Yo w' C q room' used N' M' ns A K n' := by
  refine ⟨?_, ?_, ?_, hp.us, hp.ne1, hp.ne2, hp.nn, hp.n5, hp.yo⟩
  · obtain ⟨es, c, h1, h2⟩ := hp.ow.im
    exact ⟨hp.ow.bB, key hp.ow.cells (by rintro cs e; cases e), hp.ow.b3, ⟨es, c, key h1 (by rintro cs e; cases e), h2⟩, fun k o e => by
      obtain ⟨a, b, c⟩ := hp.ow.ob k o e
      exact ⟨a, key b (by rintro cs e; cases e), c⟩, hp.ow.ap⟩
  · exact hp.sl.byT hs fun k cs t' z ht ho => key ho (by rintro cs' e; cases e; simp at ht)
  · refine tb_byK hp.tb fun k o ho hm => key ho ?_
    rintro cs rfl
    rcases hm with ⟨_, hm⟩ | ⟨cs, z, e⟩
    · exact hm _ _ _ rfl
    · cases e
section
variable {w : World} {B : Nat} {q : HQ} {b r t : Nat} {room used : Int} {N : Int → Nat} {M : MJ} {ns : Nat} {A K : Nat → Nat} {O : List Do} {X : List H.HKey} {vO vS vX vT : Value} {Y : List H.HKey} {va : Value} {i : Nat}
/-- The document's heap where blocks of handles alone change that are not its own. -/
theorem Oh.by34 {w' : World} {n : Nat} {u : Int} (h : Oh w B b r t room u M N O X vO vS vX vT n) (key : ∀ {k : Nat} {o : Obj}, w.heap[k]? = some o → (∀ cs, o ≠ .cells cs 34 (0, 0)) → w'.heap[k]? = some o) (kX : ∀ g, vX.ownBlock = some g → w'.heap[g]? = w.heap[g]?) (kT : ∀ g, vT.ownBlock = some g → w'.heap[g]? = w.heap[g]?) : Oh w' B b r t room u M N O X vO vS vX vT n := by
  obtain ⟨T, h1, h2, h3⟩ := h.tb.ex
  have hc : ∀ {j : Nat} {cs : Array Value} {t' : TypeId}, t' ≠ 34 → w.heap[j]? = some (.cells cs t' (0, 0)) → w'.heap[j]? = some (.cells cs t' (0, 0)) := fun ht e => key e (by rintro cs' e'; cases e'; exact ht rfl)
  exact ⟨hc (by decide) h.cells, h.bB, row_keepB h.row (fun e => hc (by decide) e), h.len, rm_keep h.sl (fun ht e => hc (by rcases ht with rfl | rfl <;> decide) e), ⟨⟨T, ⟨hc (by decide) h1.cells, h1.rB, row_kept h1.rowX kX, row_kept h1.rowT kT, h1.apart, h1.lenX, h1.lenT⟩, h2, h3⟩, h.tb.mt⟩, h.mo, h.nn⟩
theorem Hy.app {w' : World} (h : Hy w B q b r t room used N M ns A K O X vO vS vX vT Y va i) {Y' : List H.HKey} {va' : Value} (hk : ∀ j, j < w.heap.size → some j ≠ va.ownBlock → w'.heap[j]? = w.heap[j]?) (hb : Below B w w')
    (hrow : w'.ownsRow B 34 2 va' Y'.length (H.hCells Y')) (hl : Y'.length ≤ i) (hfr : ∀ g, va'.ownBlock = some g → va.ownBlock = some g ∨ w.heap.size ≤ g) : Hy w' B q b r t room used N M ns A K O X vO vS vX vT Y' va' i := by
  obtain ⟨T, h1, h2, h3⟩ := h.oh.tb.ex
  have key : ∀ {k : Nat} {o : Obj}, w.heap[k]? = some o → (∀ cs, o ≠ .cells cs 34 (0, 0)) → w'.heap[k]? = some o := fun {k} {o} e hne => by
    rw [hk k (heap_lt e) (fun q => by obtain ⟨c, e'⟩ := row_cells h.row q.symm; rw [e] at e'; exact hne _ (Option.some.inj e'))]
    exact e
  refine ⟨h.hp.by34 hb.size key, h.oh.by34 key (fun g e => hk g (h1.rowX.lt g e).2 (fun q => (h.ap g q.symm).1 e)) (fun g e => hk g (h1.rowT.lt g e).2 (fun q => (h.ap g q.symm).2 e)), h.tab.gr h.z hb, hrow, hl, fun g e => ⟨fun e1 => ?_, fun e1 => ?_⟩, h.z⟩
  · rcases hfr g e with q | q
    · exact (h.ap g q).1 e1
    · have := (h1.rowX.lt g e1).2; omega
  · rcases hfr g e with q | q
    · exact (h.ap g q).2 e1
    · have := (h1.rowT.lt g e1).2; omega
/-- The box of a handle is written. -/
theorem Hy.box {w' : World} (h : Hy w B q b r t room used N M ns A K O X vO vS vX vT Y va i) {z : Nat} {cs : Array Value} (hz : w.heap[z]? = some (.cells cs 34 (0, 0))) (ha : va.ownBlock ≠ some z) (hX : vX.ownBlock ≠ some z) (hT : vT.ownBlock ≠ some z) (hk : ∀ j, j ≠ z → w'.heap[j]? = w.heap[j]?) (hb : Below B w w') : Hy w' B q b r t room used N M ns A K O X vO vS vX vT Y va i := by
  have key : ∀ {k : Nat} {o : Obj}, w.heap[k]? = some o → (∀ cs, o ≠ .cells cs 34 (0, 0)) → w'.heap[k]? = some o := fun {k} {o} e hne => by
    rw [hk k (by rintro rfl; rw [hz] at e; exact hne _ (Option.some.inj e).symm)]
    exact e
  exact ⟨h.hp.by34 hb.size key, h.oh.by34 key (fun g e => hk g (by rintro rfl; exact hX e)) (fun g e => hk g (by rintro rfl; exact hT e)), h.tab.gr h.z hb, row_kept h.row (fun g e => hk g (by rintro rfl; exact ha e)), h.len, h.ap, h.z⟩
end
end Go.Proofs.YtooblonafnlfcaaDoor
end
