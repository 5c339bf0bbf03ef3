/- HandlePlays: what each call answers, and which handles live (P13.1, P13.2), for every script: the statement as given. No condition. -/
import Derived.Test.YtilohnmaaofipaaRF
import Derived.BigQuiet
import Derived.WalkKit
import Derived.ProofKit
import Derived.OpenShut
import Derived.ShutString
namespace Go.Proofs.Ytilohnmaaofipaa.handlePlays
open Go.ChangeShapes Go.WideShapes Go.ChangeAt Go.RowKit
open Go.ChangeMaps (open_string shut_string)
set_option linter.unusedVariables false
set_option linter.unusedSimpArgs false

theorem own : ownKnob Try.prog.godebug = none := by kernel_rfl
structure BlBy (w : World) where
  wo : World
  bl : Below w.heap.size w wo
theorem wp_region_bl {P : Program} {id : Nat} {Q : Exit → Act → World → Prop} {a : Act} {w : World} {l : List Oper} (hm : P.follows .mixedOrders = true) (hB : Region.lexB .any l.toArray = true)
    (h : wpQuiet P l.toArray (fun w' => ∃ p : BlBy w, w' = p.wo) (fun a' => ∀ w', (∃ p : BlBy w, w' = p.wo) → Q .normal a' w') l a) : (Code.region id l.toArray true).wp P Q a w :=
  wp_region_quiet (C := fun w' => ∃ p : BlBy w, w' = p.wo) hm hB ⟨⟨w.drew, (Below.refl _ w).drew⟩, rfl⟩ (by simpa using h)
theorem calls_bl {P : Program} {f : FuncId} {args : Array Value} {w : World} {p : BlBy w} {v : Value} (h : Calls P f args p.wo fun e w' => e = .returned v ∧ Below p.wo.heap.size p.wo w') :
    Calls P f args p.wo fun e w' => e = .returned v ∧ ∃ q : BlBy w, w' = q.wo :=
  h.mono fun _ w' ⟨he, hg⟩ => ⟨he, ⟨w', p.bl.trans (hg.mono p.bl.size)⟩, rfl⟩
theorem tb_fx {w w' : World} {B b m1 m2 r : Nat} {N : Int → Nat} {L : Int → Option Nat} {n : Nat} {X T : List HKey} {vX vT : Value} (h : Tb w B b m1 m2 N L n) (hR : Rf w B r X T vX vT) (hF : Fx B r vX vT w w') : Tb w' B b m1 m2 N L n := by
  obtain ⟨F, hF1, hF2⟩ := h.im1
  have hr : r ≠ b ∧ r ≠ m1 ∧ r ≠ m2 := by
    refine ⟨?_, ?_, ?_⟩
    · rintro rfl; have := hR.cells; rw [h.cells] at this; cases this
    · rintro rfl; exact hF1.notcells hR.cells
    · rintro rfl; exact h.im2.notcells hR.cells
  have hX : ∀ g, vX.ownBlock = some g → g ≠ b ∧ g ≠ m1 ∧ g ≠ m2 := fun g hg => by obtain ⟨c, e⟩ := row_cells hR.rowX hg; exact h.notcells e
  have hT : ∀ g, vT.ownBlock = some g → g ≠ b ∧ g ≠ m1 ∧ g ≠ m2 := fun g hg => by obtain ⟨c, e⟩ := row_cells hR.rowT hg; exact h.notcells e
  have key : ∀ i, i < w.heap.size → (i = b ∨ i = m1 ∨ i = m2) → w'.heap[i]? = w.heap[i]? := fun i hi he => hF.keep i hi (by omega) (fun e => by have := hX i e.symm; omega) (fun e => by have := hT i e.symm; omega)
  exact ⟨(key _ (heap_lt h.cells) (by simp)).trans h.cells, h.bB, h.b1, h.b2, h.ne, h.nb, ⟨F, hF1.keep (key _ hF1.lt (by simp)), hF2⟩, h.im2.keep (key _ h.im2.lt (by simp)), h.bd, h.gen⟩
theorem rf_fh {w w' : World} {B b m1 m2 r : Nat} {N : Int → Nat} {L : Int → Option Nat} {n : Nat} {X T : List HKey} {vX vT : Value} (h : Tb w B b m1 m2 N L n) (hR : Rf w B r X T vX vT) (hF : Fh B m1 m2 w w') : Rf w' B r X T vX vT := by
  obtain ⟨F, hF1, hF2⟩ := h.im1
  have hr : r ≠ m1 ∧ r ≠ m2 := by
    refine ⟨?_, ?_⟩
    · rintro rfl; exact hF1.notcells hR.cells
    · rintro rfl; exact h.im2.notcells hR.cells
  refine ⟨(hF.keep _ (heap_lt hR.cells) hr.1 hr.2).trans hR.cells, hR.rB, row_kept hR.rowX fun g hg => ?_, row_kept hR.rowT fun g hg => ?_, hR.apart, hR.lenX, hR.lenT⟩
  · obtain ⟨c, e⟩ := row_cells hR.rowX hg
    have := h.notcells e
    exact hF.keep _ (heap_lt e) this.2.1 this.2.2
  · obtain ⟨c, e⟩ := row_cells hR.rowT hg
    have := h.notcells e
    exact hF.keep _ (heap_lt e) this.2.1 this.2.2
theorem bo_fh {w w' : World} {B b m1 m2 r : Nat} {N N0 : Int → Nat} {L L0 : Int → Option Nat} {n m : Nat} {X : List HKey} {vX vT : Value} (h : Tb w B b m1 m2 N0 L0 n) (hR : Bo w B r N L X vX vT m) (hF : Fh B m1 m2 w w') : Bo w' B r N L X vX vT m := by
  obtain ⟨T, a1, a2, a3⟩ := hR.ex
  exact ⟨⟨T, rf_fh h a1 hF, a2, a3⟩, hR.mt⟩
theorem bo_below {w w' : World} {B r : Nat} {N : Int → Nat} {L : Int → Option Nat} {m m' : Nat} {X : List HKey} {vX vT : Value} (hR : Bo w B r N L X vX vT m) (hb : Below w.heap.size w w') (hm : m ≤ m') : Bo w' B r N L X vX vT m' := by
  obtain ⟨T, a1, a2, a3⟩ := hR.ex
  exact ⟨⟨T, a1.below hb, a2, by omega⟩, hR.mt⟩
theorem liv_eq {L : Int → Option Nat} {X : List HKey} {K : List Int} (hM : Mt X L) (hup : K.Pairwise (· < ·)) (hmem : ∀ k, k ∈ K ↔ (L k).isSome = true) : livL L K = X := by
  have h1 : (livL L K).Pairwise (fun a b => a.1 < b.1) := by
    rw [livL, List.pairwise_map]
    exact hup
  have hnd : ∀ l : List HKey, l.Pairwise (fun a b => a.1 < b.1) → l.Nodup := fun l hl => hl.imp fun {a b} hab e => by subst e; omega
  have hp : (livL L K).Perm X := by
    refine (List.perm_ext_iff_of_nodup (hnd _ h1) (hnd _ hM.up)).2 fun k => ?_
    obtain ⟨s, g⟩ := k
    rw [hM.mem, livL, List.mem_map]
    constructor
    · rintro ⟨k, hk, e⟩
      obtain ⟨g', hg'⟩ := Option.isSome_iff_exists.1 ((hmem k).1 hk)
      rw [hg'] at e
      cases e
      exact hg'
    · intro e
      exact ⟨s, (hmem s).2 (by rw [e]; rfl), by rw [e]; rfl⟩
  exact List.Perm.eq_of_pairwise (le := fun a b : HKey => a.1 < b.1) (fun a b _ _ h1 h2 => by omega) h1 hM.up hp

set_option maxRecDepth 100000 in
set_option maxHeartbeats 16000000 in
theorem walk (p0 : Option Addr) (L0 : List St) (c0 : Nat) (w : World) (hL0 : Sts w p0 L0) :
    Calls Try.prog 3 #[.slice p0 L0.length c0] w fun e w' => e = .returned (.bool true) ∧ Below w.heap.size w w' := by
  have kw := fun W => works_any W
  by_cases hlen : 300 < L0.length
  · have d1 : decide ((300 : Int) < (L0.length : Int)) = true := by simp; omega
    go_enter Try.func3, Try.ntmps3
    go_wp2_with (go_at_call 7; refine (kw _).mono ?_; rintro e w3 ⟨rfl, hb⟩)
    all_goals go_returns
    exact ⟨rfl, hb⟩
  have d1 : decide ((300 : Int) < (L0.length : Int)) = false := by simp; omega
  have k1 := new_any w
  have hsts := hL0.1
  rcases hL0.2 with hnil | ⟨pb, po, rfl, hpl, hpc⟩
  · subst hnil
    go_enter Try.func3, Try.ntmps3
    go_upto_region 5 with (go_at_call 8; refine k1.mono ?_; rintro e wa ⟨rfl, hTa, hba⟩)
    clear k1
    go_wp2
    refine wp_loop_rounds 2 ?_
    rw [rounds_succ]
    go_wp2_with (go_at_call 7; refine (kw _).mono ?_; rintro e w3 ⟨rfl, hb⟩)
    all_goals go_returns
    have h1 := hba.alloc hba.size (.cells #[.slice none 0 0, .slice none 0 0] 29)
    exact ⟨rfl, h1.trans (hb.mono h1.size)⟩
  clear hL0
  replace hpc : Hid _ := hpc
  replace hsts : Hid _ := hsts
  go_enter Try.func3, Try.ntmps3
  go_upto_region 5 with (go_at_call 8; refine k1.mono ?_; rintro e wa ⟨rfl, hTa, hba⟩)
  have hab : w.heap.size + 2 < wa.heap.size := heap_lt hTa.cells
  have hTb := hTa.alloc (.cells #[.slice none 0 0, .slice none 0 0] 29)
  have hr := heap_alloc_new wa (.cells #[.slice none 0 0, .slice none 0 0] 29)
  have hBo : Bo (wa.alloc (.cells #[.slice none 0 0, .slice none 0 0] 29)) w.heap.size wa.heap.size (fun _ => 0) (fun _ => none) [] (.slice none 0 0) (.slice none 0 0) 0 :=
    ⟨⟨[], ⟨hr, by omega, ⟨rfl, .inl ⟨rfl, rfl⟩⟩, ⟨rfl, .inl ⟨rfl, rfl⟩⟩, (fun g e => by cases e), by simp, by simp⟩, ⟨by simp, fun _ _ => rfl, by simp⟩, by simp⟩, ⟨by simp, by simp⟩⟩
  have hbl := hba.alloc hba.size (.cells #[.slice none 0 0, .slice none 0 0] 29)
  clear k1 hTa hba hr
  generalize wa.alloc (.cells #[.slice none 0 0, .slice none 0 0] 29) = wb at hTb hBo hbl ⊢
  generalize wa.heap.size = r at hBo hab ⊢
  generalize hB0 : w.heap.size = B at hTb hBo hab hbl hpl ⊢
  replace hB0 : Hid _ := hB0
  go_wp2
  go_loopw [5] (fun n5 wr => ∃ (i : Nat) (N : Int → Nat) (L : Int → Option Nat) (X : List HKey) (vX vT : Value), n5 = .int .i64 i ∧ i ≤ L0.length ∧ Tb wr B (B + 2) B (B + 1) N L i ∧ Bo wr B r N L X vX vT i ∧ X.length ≤ i ∧ Below B w wr) (fun n5 _ => L0.length - (valOf n5).toNat)
  case atStart => exact ⟨0, _, _, [], _, _, rfl, by omega, hTb, hBo, by simp, hbl⟩
  case round =>
    obtain ⟨i, N, L, X, vX, vT, rfl, hi, hTb, hBo, hXi, hbl⟩ := hrel
    by_cases hin : i < L0.length
    · have d : decide ((i : Int) < L0.length) = true := by simp; omega
      have e9 : IntKind.i64.wrap ((i : Int) + 1) = (i : Int) + 1 := IntWalk.i64_in _ (by omega)
      obtain ⟨x, hx⟩ : ∃ x, L0[i]? = some x := ⟨L0[i], List.getElem?_eq_getElem hin⟩
      have hxs := hsts.out x (List.mem_of_getElem? hx)
      obtain ⟨s0, s1, s2⟩ := hpc.out i x hx
      replace s0 := (hbl.cell (p := ⟨pb, po + i * 3, none⟩) hpl).trans s0
      replace s1 := (hbl.cell (p := ⟨pb, po + i * 3 + 1, none⟩) hpl).trans s1
      replace s2 := (hbl.cell (p := ⟨pb, po + i * 3 + 2, none⟩) hpl).trans s2
      obtain ⟨xd, xs, xg⟩ := x
      simp only at s0 s1 s2 hxs
      clear hx
      go_upto_if 40 with fail
      have hz6 := heap_al (heap_alloc_new wr (.cells #[.bool xd, .int .i64 xs, .int .u64 xg] 32)) (.cells #[.int .i64 xs, .int .u64 xg] 34)
      have hz7 : ((wr.alloc (.cells #[.bool xd, .int .i64 xs, .int .u64 xg] 32)).alloc (.cells #[.int .i64 xs, .int .u64 xg] 34)).heap[wr.heap.size + 1]? = some (.cells #[.int .i64 xs, .int .u64 xg] 34 (0, 0)) := by
        simpa using heap_alloc_new (wr.alloc (.cells #[.bool xd, .int .i64 xs, .int .u64 xg] 32)) (.cells #[.int .i64 xs, .int .u64 xg] 34)
      have hba : Below wr.heap.size wr ((wr.alloc (.cells #[.bool xd, .int .i64 xs, .int .u64 xg] 32)).alloc (.cells #[.int .i64 xs, .int .u64 xg] 34)) := ((Below.refl _ wr).alloc (Nat.le_refl _) _).alloc (by simp) _
      have hTW := hTb.below hba
      have hBW := bo_below hBo hba (Nat.le_refl _)
      have hbW := hbl.trans (hba.mono hTb.size)
      have hgX : ∀ g, vX.ownBlock = some g → g < wr.heap.size := fun g hg => by obtain ⟨T, a1, _⟩ := hBo.ex; exact (a1.rowX.lt g hg).2
      have hgT : ∀ g, vT.ownBlock = some g → g < wr.heap.size := fun g hg => by obtain ⟨T, a1, _⟩ := hBo.ex; exact (a1.rowT.lt g hg).2
      have hrz : r < wr.heap.size := by obtain ⟨T, a1, _⟩ := hBo.ex; exact heap_lt a1.cells
      have hmz := hTb.nm
      have hNb := hTb.bd
      clear s0 s1 s2 hba hTb hBo hbl
      generalize (wr.alloc (.cells #[.bool xd, .int .i64 xs, .int .u64 xg] 32)).alloc (.cells #[.int .i64 xs, .int .u64 xg] 34) = W at hz6 hz7 hTW hBW hbW ⊢
      generalize wr.heap.size = z at hz6 hz7 hgX hgT hrz hmz ⊢
      go_cut [] (fun wx => ∃ (N : Int → Nat) (L : Int → Option Nat) (X : List HKey) (vX vT : Value), Tb wx B (B + 2) B (B + 1) N L (i + 1) ∧ Bo wx B r N L X vX vT (i + 1) ∧ wx.heap[z]? = some (.cells #[.bool xd, .int .i64 xs, .int .u64 xg] 32 (0, 0)) ∧ wx.heap[z + 1]? = some (.cells #[.int .i64 xs, .int .u64 xg] 34 (0, 0)) ∧ Below B w wx)
      case first =>
        have kfx : ∀ {w1 w2 : World} {o : Obj} (q : Nat), Fx B r vX vT w1 w2 → w1.heap[q]? = some o → z ≤ q → w2.heap[q]? = some o := fun q hF hq hzq => (hF.keep q (heap_lt hq) (by omega) (fun e => by have := hgX _ e.symm; omega) (fun e => by have := hgT _ e.symm; omega)).trans hq
        cases xd with
        | true =>
          go_upto_region 11 with fail
          have q0 := cell_of hz7 0
          have q1 := cell_of hz7 1
          simp at q0 q1
          have ka := drop_any W.drew _ _ _ _ _ _ _ hTW.drew xs xg
          have hBd : Bo W.drew B r N L X vX vT i := bo_below hBW (Below.refl _ _).drew (Nat.le_refl _)
          generalize hdE : drE L xs xg = dE at ka
          replace hdE : Hid _ := hdE
          have dd : (dE == dE) = true := by simp
          go_region_held3 (fun w' => w'.cell? ⟨z + 1, 0, none⟩ = some (.int .i64 xs) ∧ w'.cell? ⟨z + 1, 1, none⟩ = some (.int .u64 xg)) ((refine ⟨?_, ?_⟩ <;> repeat (with_reducible (first | assumption | apply cell_dr)))) (first
            | (go_at_call 10; refine kb.mono ?_; rintro e v2 ⟨rfl, ⟨X', vX', vT', hB2⟩, hF4⟩; have y3 := kfx (z + 1) hF4 y2 (by omega); have t0 : v2.cell? ⟨z + 1, 0, none⟩ = some (.int .i64 xs) := (by rw [cell_of y3]; rfl); have t1 : v2.cell? ⟨z + 1, 1, none⟩ = some (.int .u64 xg) := (by rw [cell_of y3]; rfl))
            | (go_at_call 9; refine ka.mono ?_; rintro e v1 ⟨rfl, hT3, hF3⟩; have y2 := hF3.at (z := z + 1) hz7 (by omega) (by omega); have r0 : v1.cell? ⟨z + 1, 0, none⟩ = some (.int .i64 xs) := (by rw [cell_of y2]; rfl); have r1 : v1.cell? ⟨z + 1, 1, none⟩ = some (.int .u64 xg) := (by rw [cell_of y2]; rfl); have hB1 := bo_fh hTW.drew hBd hF3; have kb := rdrop_any v1 _ _ _ _ _ _ _ _ hB1 xs xg; rw [hdE.out] at kb))
          all_goals go_wp2
          all_goals go_meet
          all_goals
            obtain ⟨T1, a1, _⟩ := hB1.ex
            exact ⟨N, drL L xs xg, X', vX', vT', (tb_fx hT3 a1 hF4).mono (by omega) (by omega), bo_below hB2 (Below.refl _ _) (by omega), kfx z hF4 (hF3.at hz6 (by omega) (by omega)) (Nat.le_refl _), y3, (hbW.drew.trans hF3.bel).trans hF4.bel⟩
        | false =>
          have q6 := cell_of hz6 1
          simp at q6
          have ka := make_any W _ _ _ _ _ _ _ hTW xs hxs (by omega)
          generalize hmS : mkS L xs = mS at ka
          generalize hmG : mkG N L xs = mG at ka
          generalize hmE : mkE L xs = mE at ka
          replace hmS : Hid _ := hmS
          replace hmG : Hid _ := hmG
          replace hmE : Hid _ := hmE
          go_upto_region 14 with (go_at_call 11; refine ka.mono ?_; rintro e v1 ⟨rfl, hT3, hF3⟩)
          have hB1 := bo_fh hTW hBW hF3
          have hba : Below v1.heap.size v1 (v1.alloc (.cells #[.int .i64 mS, .int .u64 mG] 34)) := (Below.refl _ v1).alloc (Nat.le_refl _) _
          have hT4 := hT3.below hba
          have hB4 := bo_below hB1 hba (Nat.le_refl _)
          have z64 := heap_al (hF3.at hz6 (by omega) (by omega)) (.cells #[.int .i64 mS, .int .u64 mG] 34)
          have z74 := heap_al (hF3.at hz7 (by omega) (by omega)) (.cells #[.int .i64 mS, .int .u64 mG] 34)
          have y8 := heap_alloc_new v1 (.cells #[.int .i64 mS, .int .u64 mG] 34)
          have hb4 := (hbW.trans hF3.bel).alloc hT3.size (.cells #[.int .i64 mS, .int .u64 mG] 34)
          have hz1' : z + 1 < v1.heap.size := by have := heap_lt (hF3.at hz7 (by omega) (by omega)); exact this
          clear ka q6
          generalize v1.alloc (.cells #[.int .i64 mS, .int .u64 mG] 34) = v2 at hT4 hB4 z64 z74 y8 hb4 ⊢
          generalize v1.heap.size = q8 at y8 hz1' ⊢
          have q6 := cell_of z64 1
          simp at q6
          have kb := rmake_any v2 _ _ _ _ _ _ _ _ hB4 xs (by omega) (by omega) (by have := hNb xs; omega)
          rw [hmS.out, hmG.out, hmE.out] at kb
          go_upto_region 15 with (go_at_call 12; refine kb.mono ?_; rintro e v3 ⟨rfl, ⟨X', vX', vT', hB5⟩, hF5⟩)
          obtain ⟨T4, a4, _⟩ := hB4.ex
          have hT5 := tb_fx hT4 a4 hF5
          have hbb : Below v3.heap.size v3 (v3.alloc (.cells #[.int .i64 mS, .int .u64 mG] 34)) := (Below.refl _ v3).alloc (Nat.le_refl _) _
          have hT6 := hT5.below hbb
          have hB6 := bo_below hB5 hbb (Nat.le_refl _)
          have z66 := heap_al (kfx z hF5 z64 (Nat.le_refl _)) (.cells #[.int .i64 mS, .int .u64 mG] 34)
          have z76 := heap_al (kfx (z + 1) hF5 z74 (by omega)) (.cells #[.int .i64 mS, .int .u64 mG] 34)
          have y86 := heap_al (kfx q8 hF5 y8 (by omega)) (.cells #[.int .i64 mS, .int .u64 mG] 34)
          have y10 := heap_alloc_new v3 (.cells #[.int .i64 mS, .int .u64 mG] 34)
          have hb6 := (hb4.trans hF5.bel).alloc hT5.size (.cells #[.int .i64 mS, .int .u64 mG] 34)
          clear kb q6
          generalize v3.alloc (.cells #[.int .i64 mS, .int .u64 mG] 34) = v4 at hT6 hB6 z66 z76 y86 y10 hb6 ⊢
          generalize v3.heap.size = q10 at y10 ⊢
          have u0 := cell_of y86 0
          have u1 := cell_of y86 1
          have t0 := cell_of y10 0
          have t1 := cell_of y10 1
          simp at u0 u1 t0 t1
          have nq := fun W => neqH mS mS mG mG W
          simp only [beq_self_eq_true, Bool.and_self, Bool.not_true] at nq
          have dd : (mE == mE) = true := by simp
          go_wp2
          all_goals go_meet
          all_goals exact ⟨_, _, X', vX', vT', hT6, hB6, z66, z76, hb6⟩
      case rest =>
        obtain ⟨N, L, X, vX, vT, hTb, hBo, hz6, hz7, hbl⟩ := hcut
        obtain ⟨T, hRf, hNt, hTl⟩ := hBo.ex
        obtain ⟨pX, cX, rfl⟩ := own_shape hRf.rowX
        have hlX := hRf.lenX
        clear hTW hBW hgX hgT
        have ko := of_any wc _ _ _ _ _ _ _ hTb xs
        unfold ofM at ko
        have q60 := cell_of hz6 1
        simp at q60
        cases hL : L xs with
        | some g' =>
          simp only [hL, hdV] at ko
          obtain ⟨k, hk, hd⟩ := hBo.mt.yes hL
          have hkl := (List.getElem?_eq_some_iff.1 hk).1
          replace hL : Hid _ := hL
          go_upto_region 18 with (go_at_call 13; refine ko.mono ?_; rintro e v1 ⟨rfl, hb1⟩)
          have hba1 : Below wc.heap.size wc (v1.alloc (.cells #[.int .i64 xs, .int .u64 g'] 34)) := hb1.alloc hb1.size _
          have hT1 := hTb.below hba1
          have hR1 := hRf.below hba1
          have z61 := (hba1.block _ (heap_lt hz6)).trans hz6
          have z71 := (hba1.block _ (heap_lt hz7)).trans hz7
          have z12 := heap_alloc_new v1 (.cells #[.int .i64 xs, .int .u64 g'] 34)
          clear ko
          generalize v1.alloc (.cells #[.int .i64 xs, .int .u64 g'] 34) = W1 at hba1 hT1 hR1 z61 z71 z12 ⊢
          generalize v1.heap.size = q12 at z12 ⊢
          have q6 := cell_of z61 1
          simp at q6
          have kat := at_yes W1 B r X T _ vT hR1 xs k g' hk hd
          go_upto_region 19 with (go_at_call 14; refine kat.mono ?_; rintro e w' ⟨rfl, hw⟩; rw [hw]; clear hw)
          clear kat q6
          have kal := all_any W1 _ _ _ _ _ _ _ hT1
          go_upto_region 20 with (go_at_call 15; refine kal.mono ?_; go_loud (rintro e v2 ⟨v, K, rfl, hup, hmem, hKn, hrow, hb2⟩; obtain ⟨kp, kc, rfl⟩ : ∃ p cap, v = .slice p K.length cap := own_shape hrow))
          have hKX := liv_eq hBo.mt hup hmem
          have hKl : K.length = X.length := by rw [← hKX]; simp [livL]
          rw [hKX] at hrow
          rw [hKl] at hrow hKn ⊢
          clear kal hup hmem hKX hKl
          have hT2 := hT1.below hb2
          have hR2 := hR1.below hb2
          have z72 := (hb2.block _ (heap_lt z71)).trans z71
          have z122 := (hb2.block _ (heap_lt z12)).trans z12
          have hbw2 : Below B w v2 := (hbl.trans (hba1.mono hTb.size)).trans (hb2.mono hT1.size)
          have hbo2 : Bo v2 B r N L X (.slice pX X.length cX) vT (i + 1) := ⟨⟨T, hR2, hNt, hTl⟩, hBo.mt⟩
          have kA := fun p : BlBy v2 => lives_any p.wo _ _ _ _ _ _ _ (hT2.below p.bl) xs xg
          have kB := fun p : BlBy v2 => rlives_any p.wo _ _ _ _ _ _ (hR2.below p.bl) L hBo.mt xs xg
          generalize (L xs == some xg) = lv at kA kB
          have a0 := fun p : BlBy v2 => (show p.wo.cell? ⟨z + 1, 0, none⟩ = some (.int .i64 xs) by rw [cell_of ((p.bl.block _ (heap_lt z72)).trans z72)]; rfl)
          have a1 := fun p : BlBy v2 => (show p.wo.cell? ⟨z + 1, 1, none⟩ = some (.int .u64 xg) by rw [cell_of ((p.bl.block _ (heap_lt z72)).trans z72)]; rfl)
          have b0 := fun p : BlBy v2 => (show p.wo.cell? ⟨q12, 0, none⟩ = some (.int .i64 xs) by rw [cell_of ((p.bl.block _ (heap_lt z122)).trans z122)]; rfl)
          have b1 := fun p : BlBy v2 => (show p.wo.cell? ⟨q12, 1, none⟩ = some (.int .u64 g') by rw [cell_of ((p.bl.block _ (heap_lt z122)).trans z122)]; rfl)
          have c00 := fun p : BlBy v2 => (show p.wo.cell? ⟨r, 0, none⟩ = some (.slice pX X.length cX) by rw [cell_of ((p.bl.block _ (heap_lt hR2.cells)).trans hR2.cells)]; rfl)
          have nq := fun W => neqH xs xs g' g' W
          simp only [beq_self_eq_true, Bool.and_self, Bool.not_true] at nq
          have l1 : (lv != lv) = false := by simp
          have l2 : (lv == lv) = true := by simp
          have l3 : ((X.length : Int) == (X.length : Int)) = true := by simp
          have dk : decide ((0 : Int) ≤ (k : Int)) = true := by simp
          obtain ⟨gb, xk, hxk, hgl, hgo, hc0, hc1, hai⟩ := idx34 hR2.rowX hkl (by omega)
          rw [hk] at hxk
          obtain rfl := Option.some.inj hxk
          simp only at hc0 hc1
          have d0 := fun p : BlBy v2 => (p.bl.cell (p := ⟨gb, k * 2, none⟩) hgl).trans hc0
          have d1' := fun p : BlBy v2 => (p.bl.cell (p := ⟨gb, k * 2 + 1, none⟩) hgl).trans hc1
          try simp only [List.append_eq, List.cons_append, List.nil_append]
          have hne : Nonempty (BlBy v2) := ⟨⟨v2, Below.refl _ v2⟩⟩
          refine wp_region_bl (by kernel_rfl) (by kernel_rfl) ?_
          repeat (first
            | go_big_quiet_skip
            | (go_big_quiet_want; go_big_quiet_op; first
              | go_big_quiet_on
              | (apply Exists.intro
                 refine ⟨fun p => ?_, ?_⟩
                 · first
                     | (go_at_call 16; exact calls_bl (kA p))
                     | (go_at_call 17; exact calls_bl (kB p))
                 go_big_quiet_on)))
          refine wpQuiet_nil ?_
          intro wq hw'
          obtain ⟨⟨wq2, hq⟩, e⟩ := hw'
          simp only at e
          subst e
          clear kA kB a0 a1 b0 b1 c00 nq
          clear d0 d1' hai hc0 hc1 dk
          go_wp2
          go_loopw [16] (fun n16 wk => ∃ k2 : Nat, n16 = .int .i64 k2 ∧ k2 ≤ X.length ∧ Below v2.heap.size v2 wk) (fun n16 _ => X.length - (valOf n16).toNat)
          case atStart => exact ⟨0, rfl, by omega, hq⟩
          case round =>
            obtain ⟨k2, rfl, hk2, hbk⟩ := hrel
            have hRk := hR2.below hbk
            have hrk := row_kept hrow (fun g hg => hbk.block _ (hrow.lt g hg).2)
            by_cases hkl2 : k2 < X.length
            · have dk2 : decide ((k2 : Int) < X.length) = true := by simp; omega
              have e8 : IntKind.i64.wrap ((k2 : Int) + 1) = (k2 : Int) + 1 := IntWalk.i64_in _ (by omega)
              obtain ⟨g1, y1, hy1, -, -, t0, t1, hai1⟩ := idx34 hrk hkl2 (by omega)
              obtain ⟨g2, y2, hy2, -, -, u0', u1', hai2⟩ := idx34 hRk.rowX hkl2 (by omega)
              rw [hy1] at hy2
              obtain rfl := Option.some.inj hy2
              obtain ⟨ys, yg⟩ := y1
              simp only at t0 t1 u0' u1'
              have cr : wr.cell? ⟨r, 0, none⟩ = some (.slice pX X.length cX) := by rw [cell_of hRk.cells]; rfl
              have nq2 := fun W => neqH ys ys yg yg W
              simp only [beq_self_eq_true, Bool.and_self, Bool.not_true] at nq2
              go_upto_region 25 with fail
              go_quiet (fail)
              go_wp2
              exact ⟨⟨k2 + 1, by simp, by omega, Below.drewN hbk _⟩, by simp [valOf]; omega⟩
            · have dk2 : decide ((k2 : Int) < X.length) = false := by simp; omega
              go_wp2
              exact ⟨⟨i + 1, N, L, X, _, vT, by simp, by omega, hT2.below hbk, ⟨⟨T, hRk, hNt, hTl⟩, hBo.mt⟩, hKn, hbw2.trans (hbk.mono hT2.size)⟩, by simp [valOf]; omega⟩
        | none =>
          simp only [hL, hdV] at ko
          have hnoL := hBo.mt.no hL
          go_upto_region 18 with (go_at_call 13; refine ko.mono ?_; rintro e v1 ⟨rfl, hb1⟩)
          have hba1 : Below wc.heap.size wc (v1.alloc (.cells #[.int .i64 0, .int .u64 0] 34)) := hb1.alloc hb1.size _
          have hT1 := hTb.below hba1
          have hR1 := hRf.below hba1
          have z61 := (hba1.block _ (heap_lt hz6)).trans hz6
          have z71 := (hba1.block _ (heap_lt hz7)).trans hz7
          have z12 := heap_alloc_new v1 (.cells #[.int .i64 0, .int .u64 0] 34)
          clear ko
          generalize v1.alloc (.cells #[.int .i64 0, .int .u64 0] 34) = W1 at hba1 hT1 hR1 z61 z71 z12 ⊢
          generalize v1.heap.size = q12 at z12 ⊢
          have q6 := cell_of z61 1
          simp at q6
          have kat := at_no W1 B r X T _ vT hR1 xs (hBo.mt.no hL)
          go_upto_region 19 with (go_at_call 14; refine kat.mono ?_; rintro e w' ⟨rfl, hw⟩; rw [hw]; clear hw)
          clear kat q6
          have kal := all_any W1 _ _ _ _ _ _ _ hT1
          go_upto_region 20 with (go_at_call 15; refine kal.mono ?_; go_loud (rintro e v2 ⟨v, K, rfl, hup, hmem, hKn, hrow, hb2⟩; obtain ⟨kp, kc, rfl⟩ : ∃ p cap, v = .slice p K.length cap := own_shape hrow))
          have hKX := liv_eq hBo.mt hup hmem
          have hKl : K.length = X.length := by rw [← hKX]; simp [livL]
          rw [hKX] at hrow
          rw [hKl] at hrow hKn ⊢
          clear kal hup hmem hKX hKl
          have hT2 := hT1.below hb2
          have hR2 := hR1.below hb2
          have z72 := (hb2.block _ (heap_lt z71)).trans z71
          have z122 := (hb2.block _ (heap_lt z12)).trans z12
          have hbw2 : Below B w v2 := (hbl.trans (hba1.mono hTb.size)).trans (hb2.mono hT1.size)
          have hbo2 : Bo v2 B r N L X (.slice pX X.length cX) vT (i + 1) := ⟨⟨T, hR2, hNt, hTl⟩, hBo.mt⟩
          have kA := fun p : BlBy v2 => lives_any p.wo _ _ _ _ _ _ _ (hT2.below p.bl) xs xg
          have kB := fun p : BlBy v2 => rlives_any p.wo _ _ _ _ _ _ (hR2.below p.bl) L hBo.mt xs xg
          generalize (L xs == some xg) = lv at kA kB
          have a0 := fun p : BlBy v2 => (show p.wo.cell? ⟨z + 1, 0, none⟩ = some (.int .i64 xs) by rw [cell_of ((p.bl.block _ (heap_lt z72)).trans z72)]; rfl)
          have a1 := fun p : BlBy v2 => (show p.wo.cell? ⟨z + 1, 1, none⟩ = some (.int .u64 xg) by rw [cell_of ((p.bl.block _ (heap_lt z72)).trans z72)]; rfl)
          have b0 := fun p : BlBy v2 => (show p.wo.cell? ⟨q12, 0, none⟩ = some (.int .i64 0) by rw [cell_of ((p.bl.block _ (heap_lt z122)).trans z122)]; rfl)
          have b1 := fun p : BlBy v2 => (show p.wo.cell? ⟨q12, 1, none⟩ = some (.int .u64 0) by rw [cell_of ((p.bl.block _ (heap_lt z122)).trans z122)]; rfl)
          have c00 := fun p : BlBy v2 => (show p.wo.cell? ⟨r, 0, none⟩ = some (.slice pX X.length cX) by rw [cell_of ((p.bl.block _ (heap_lt hR2.cells)).trans hR2.cells)]; rfl)
          have nq := fun W => neqH 0 0 0 0 W
          simp only [beq_self_eq_true, Bool.and_self, Bool.not_true] at nq
          have l1 : (lv != lv) = false := by simp
          have l2 : (lv == lv) = true := by simp
          have l3 : ((X.length : Int) == (X.length : Int)) = true := by simp
          try simp only [List.append_eq, List.cons_append, List.nil_append]
          have hne : Nonempty (BlBy v2) := ⟨⟨v2, Below.refl _ v2⟩⟩
          refine wp_region_bl (by kernel_rfl) (by kernel_rfl) ?_
          repeat (first
            | go_big_quiet_skip
            | (go_big_quiet_want; go_big_quiet_op; first
              | go_big_quiet_on
              | (apply Exists.intro
                 refine ⟨fun p => ?_, ?_⟩
                 · first
                     | (go_at_call 16; exact calls_bl (kA p))
                     | (go_at_call 17; exact calls_bl (kB p))
                 go_big_quiet_on)))
          refine wpQuiet_nil ?_
          intro wq hw'
          obtain ⟨⟨wq2, hq⟩, e⟩ := hw'
          simp only at e
          subst e
          clear kA kB a0 a1 b0 b1 c00 nq
          go_wp2
          go_loopw [16] (fun n16 wk => ∃ k2 : Nat, n16 = .int .i64 k2 ∧ k2 ≤ X.length ∧ Below v2.heap.size v2 wk) (fun n16 _ => X.length - (valOf n16).toNat)
          case atStart => exact ⟨0, rfl, by omega, hq⟩
          case round =>
            obtain ⟨k2, rfl, hk2, hbk⟩ := hrel
            have hRk := hR2.below hbk
            have hrk := row_kept hrow (fun g hg => hbk.block _ (hrow.lt g hg).2)
            by_cases hkl2 : k2 < X.length
            · have dk2 : decide ((k2 : Int) < X.length) = true := by simp; omega
              have e8 : IntKind.i64.wrap ((k2 : Int) + 1) = (k2 : Int) + 1 := IntWalk.i64_in _ (by omega)
              obtain ⟨g1, y1, hy1, -, -, t0, t1, hai1⟩ := idx34 hrk hkl2 (by omega)
              obtain ⟨g2, y2, hy2, -, -, u0', u1', hai2⟩ := idx34 hRk.rowX hkl2 (by omega)
              rw [hy1] at hy2
              obtain rfl := Option.some.inj hy2
              obtain ⟨ys, yg⟩ := y1
              simp only at t0 t1 u0' u1'
              have cr : wr.cell? ⟨r, 0, none⟩ = some (.slice pX X.length cX) := by rw [cell_of hRk.cells]; rfl
              have nq2 := fun W => neqH ys ys yg yg W
              simp only [beq_self_eq_true, Bool.and_self, Bool.not_true] at nq2
              go_upto_region 25 with fail
              go_quiet (fail)
              go_wp2
              exact ⟨⟨k2 + 1, by simp, by omega, Below.drewN hbk _⟩, by simp [valOf]; omega⟩
            · have dk2 : decide ((k2 : Int) < X.length) = false := by simp; omega
              go_wp2
              exact ⟨⟨i + 1, N, L, X, _, vT, by simp, by omega, hT2.below hbk, ⟨⟨T, hRk, hNt, hTl⟩, hBo.mt⟩, hKn, hbw2.trans (hbk.mono hT2.size)⟩, by simp [valOf]; omega⟩
    · have d : decide ((i : Int) < L0.length) = false := by simp; omega
      go_wp2_with (go_at_call 7; refine (kw _).mono ?_; rintro e w3 ⟨rfl, hb⟩)
      all_goals go_returns
      have hB1 := hB0.out
      have h1 := hbl.size
      rw [hB1]
      exact ⟨rfl, hbl.trans (hb.mono (by omega))⟩

theorem readable : ∀ t ∈ Try.f3.params.toList, Try.prog.readableRec t = true ∧ t < Try.prog.types.size := by
  rw [Try.params3]
  intro t ht
  simp at ht
  rcases ht with rfl
  all_goals exact ⟨by kernel_rfl, of_decide_eq_true (by kernel_rfl)⟩
set_option maxRecDepth 100000 in
theorem lifted (os : Os) (started : os.Started) (H : Type) (enc : TypeId × Value → H) :
    ReturnsInHanded {} Try.checked os 3 .any (Rows.handlePlaysSpec.pre6 enc Try.prog Try.f3 Rows.handlePlaysRow.domain false) (Rows.handlePlaysSpec.post enc Try.prog Try.f3 false true false false) := by
  refine returnsInHanded_of_change (C := Try.checked) own started (by kernel_rfl) Try.func3
    (ChangeSpec.witness6 (enc := enc) (C := Try.checked) false ⟨#[], #[.slice none 0 0], []⟩ 8 (by kernel_rfl) (by kernel_rfl) (by kernel_rfl) (by kernel_rfl)) ?_
  intro W base args ds gs before hval0 hW hcnd _
  have hval : ∀ (j : Nat) t v, Try.f3.params[j]? = some t → args[j]? = some v → Value.okWide Try.prog W .any base t v := hval0
  have hW' := hW
  obtain ⟨p, q, hA0, hV, rfl, hfz, hnd⟩ := hW
  have hA : DataW.TrodAll enc Try.prog W 0 (fun _ => true) true Try.f3.params.toList args.toList ds p := hA0
  rw [Try.params3] at hA hval
  obtain ⟨v0, vs0, d0, ds0, p0, q0, hargs, rfl, rfl, h0, r0⟩ := trodAll_cons hA
  obtain ⟨rfl, rfl, rfl⟩ := trodAll_nil r0
  obtain rfl : args = #[v0] := by cases args; simp_all
  obtain ⟨rfl, rfl⟩ := trodVars_none hV
  obtain ⟨p0, L0, c0, rfl, hL0⟩ := open_sts (hval 0 22 v0 rfl rfl) h0
  clear hA0 hval0
  refine (walk p0 L0 c0 W hL0).mono fun e W' ⟨he, hg⟩ => ?_
  subst he
  exact ⟨_, rfl, post_bel readable hW' rfl (fun _ _ _ => (trodAll_cons_mk (shut_bool Try.underlying4 _) trodAll_mk0)) rfl (fun _ => rfl)
    hg (ok_one (by kernel_rfl) rfl (okWide_bool_mk Try.underlying4 _))⟩

theorem over : Rows.handlePlaysRow.holds Try.pinned (OpenSpec.ofChange Rows.handlePlaysSpec) :=
  OpenClaim.holds_of_wide 3 Try.f3 rfl rfl rfl rfl rfl rfl rfl ⟨rfl, rfl, rfl, rfl, rfl⟩ rfl rfl rfl rfl rfl (by kernel_rfl) Try.func3 (by kernel_rfl)
    (of_decide_eq_true (by kernel_rfl)) (by unfold Func.isWrapper; first | (rw [if_pos (by decide +kernel)]; kernel_rfl) | (rw [if_neg (by decide +kernel)]; exact ⟨rfl, rfl⟩))
    (fun os started H enc _ => lifted os started H enc)

theorem proved : Rows.HandlePlaysSaid :=
  over
end Go.Proofs.Ytilohnmaaofipaa.handlePlays
namespace Go.Proofs.Ytilohnmaaofipaa
theorem handlePlays_holds : Rows.HandlePlaysSaid :=
  handlePlays.proved
#print axioms handlePlays_holds
end Go.Proofs.Ytilohnmaaofipaa
