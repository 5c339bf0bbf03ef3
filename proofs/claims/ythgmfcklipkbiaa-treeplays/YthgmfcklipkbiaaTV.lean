/- Towards TreePlays: the document's Insert; both trees beside one another; alike. -/
import Derived.Test.YthgmfcklipkbiaaTY
import Derived.Test.YthgmfcklipkbiaaRB
namespace Go.Proofs.Ythgmfcklipkbiaa
open Go.ChangeShapes Go.WideShapes Go.ChangeAt Go.RowKit
set_option linter.unusedVariables false
set_option linter.unusedSimpArgs false
set_option maxRecDepth 20000
def atI (K : List HKey) (k : HKey) : Int := if k ∈ K then (K.idxOf k : Int) else -1
theorem rat_at {w : World} {B r : Nat} {X : List HKey} {v : Value} (h : Rl w B r X v) (hn : X.Nodup) (k : HKey) :
    Calls Try.prog 10 #[.pointer (some ⟨r, 0, none⟩), .agg #[.int .i64 k.1, .int .u64 k.2]] w fun e w' => e = .returned (.int .i64 (atI X k)) ∧ Below w.heap.size w w' := by
  refine (rat_any w B r X v h k).mono ?_
  rintro e w' ⟨j, rfl, hj, hb⟩
  refine ⟨?_, hb⟩
  rcases hj with ⟨hk, rfl⟩ | ⟨i, rfl, hi, -⟩
  · simp [atI, hk]
  · have hm := List.mem_of_getElem? hi
    unfold atI
    rw [if_pos hm, idx_atG hn hi]
theorem FR.bel' {B r : Nat} {w w' : World} (h : Below w.heap.size w w') (hB : B ≤ w.heap.size) : FR B r w w' := ⟨h.mono hB, fun k hk _ => h.block k hk⟩
set_option maxHeartbeats 2000000 in
theorem rins_any (w : World) (B r : Nat) (X : List HKey) (v : Value) (h : Rl w B r X v) (hn : X.Nodup) (hl : X.length + 1 ≤ 1000) (i : Int) (k : HKey) :
    Calls Try.prog 14 #[.pointer (some ⟨r, 0, none⟩), .int .i64 i, .agg #[.int .i64 k.1, .int .u64 k.2]] w fun e w' => e = .returned (.int .i64 (insR X i k)) ∧ (∃ v', Rl w' B r (insK X i k) v') ∧ FR B r w w' := by
  have hB := h.size
  have hb1 := (Below.refl _ w).alloc (Nat.le_refl _) (.cells #[.int .i64 k.1, .int .u64 k.2] 34)
  have yz := heap_alloc_new w (.cells #[.int .i64 k.1, .int .u64 k.2] 34)
  have h1 := h.below hb1
  go_enter Try.func14, Try.ntmps14
  go_upto_region 1 with fail
  generalize w.alloc (.cells #[.int .i64 k.1, .int .u64 k.2] 34) = W at hb1 yz h1 ⊢
  obtain ⟨p, c, hv⟩ := own_shape h1.row
  have c0 : W.cell? ⟨r, 0, none⟩ = some (.slice p X.length c) := by rw [cell_of h1.cells, hv]; rfl
  have hout : ∀ w', Below w.heap.size w w' → (∃ v', Rl w' B r X v') ∧ FR B r w w' := fun w' hb => ⟨⟨v, h.below hb⟩, FR.bel' hb hB⟩
  by_cases hi : i < 0 ∨ (X.length : Int) < i
  · have hr0 : insR X i k = 2 := by unfold insR; rw [if_pos hi]
    have hk : Hid (insK X i k = X) := by show insK X i k = X; unfold insK; rw [hr0]; rfl
    have hr : Hid (insR X i k = 2) := hr0
    clear hr0
    by_cases h0 : i < 0
    · have d1 : decide (i < 0) = true := by simpa using h0
      go_wp2
      all_goals go_returns
      all_goals exact ⟨by rw [hr.out]; rfl, by rw [hk.out]; exact hout _ hb1⟩
    · have d1 : decide (i < 0) = false := by simpa using h0
      have d2 : decide ((X.length : Int) < i) = true := decide_eq_true (by omega)
      have d3 : decide (i > (X.length : Int)) = true := decide_eq_true (by omega)
      go_wp2
      all_goals go_returns
      all_goals exact ⟨by rw [hr.out]; rfl, by rw [hk.out]; exact hout _ hb1⟩
  · have d1 : decide (i < 0) = false := decide_eq_false (by omega)
    have d2 : decide ((X.length : Int) < i) = false := decide_eq_false (by omega)
    have d3 : decide (i > (X.length : Int)) = false := decide_eq_false (by omega)
    obtain ⟨j, rfl⟩ : ∃ j : Nat, i = (j : Int) := ⟨i.toNat, by omega⟩
    have hjl : j ≤ X.length := by omega
    have y0 := fun p : BlBy W => (p.bl.cell (p := ⟨w.heap.size, 0, none⟩) (heap_lt yz)).trans (by rw [cell_of yz]; rfl : W.cell? ⟨w.heap.size, 0, none⟩ = some (.int .i64 k.1))
    have y1 := fun p : BlBy W => (p.bl.cell (p := ⟨w.heap.size, 1, none⟩) (heap_lt yz)).trans (by rw [cell_of yz]; rfl : W.cell? ⟨w.heap.size, 1, none⟩ = some (.int .u64 k.2))
    have kA := fun p : BlBy W => rat_at (h1.below p.bl) hn k
    have hne : Nonempty (BlBy W) := ⟨⟨W, Below.refl _ W⟩⟩
    by_cases hk : k ∈ X
    · have hr0 : insR X (j : Int) k = 7 := by unfold insR; rw [if_neg hi, if_pos hk]
      have hkk : Hid (insK X (j : Int) k = X) := by show insK X (j : Int) k = X; unfold insK; rw [hr0]; rfl
      have hr : Hid (insR X (j : Int) k = 7) := hr0
      clear hr0
      have ha : atI X k = (X.idxOf k : Int) := by unfold atI; rw [if_pos hk]
      rw [ha] at kA
      have d5 : decide ((0 : Int) ≤ (X.idxOf k : Int)) = true := by simp
      have d6 : decide ((X.idxOf k : Int) ≥ (0 : Int)) = true := by simp
      generalize (X.idxOf k : Int) = ix at kA d5 d6
      go_upto_region 3 with fail
      refine wp_region_bl (by kernel_rfl) (by kernel_rfl) ?_
      repeat (first
        | go_big_quiet_skip
        | (go_big_quiet_want; go_big_quiet_op; first
          | go_big_quiet_on
          | (apply Exists.intro
             refine ⟨fun p => ?_, ?_⟩
             · (go_at_call 10; exact calls_bl (kA p))
             go_big_quiet_on)))
      refine wpQuiet_nil ?_
      intro wq hw'
      obtain ⟨⟨wq2, hq⟩, e⟩ := hw'
      simp only at e
      subst e
      go_wp2
      all_goals go_returns
      all_goals exact ⟨by rw [hr.out]; rfl, by rw [hkk.out]; exact hout _ (hb1.trans (hq.mono hb1.size))⟩
    · have hr0 : insR X (j : Int) k = 0 := by unfold insR; rw [if_neg hi, if_neg hk]
      have hkk : Hid (insK X (j : Int) k = X.take j ++ k :: X.drop j) := by show insK X (j : Int) k = X.take j ++ k :: X.drop j; unfold insK; rw [hr0, if_pos rfl, Int.toNat_natCast]
      have hr : Hid (insR X (j : Int) k = 0) := hr0
      clear hr0
      have ha : atI X k = -1 := by unfold atI; rw [if_neg hk]
      rw [ha] at kA
      go_upto_region 3 with fail
      refine wp_region_bl (by kernel_rfl) (by kernel_rfl) ?_
      repeat (first
        | go_big_quiet_skip
        | (go_big_quiet_want; go_big_quiet_op; first
          | go_big_quiet_on
          | (apply Exists.intro
             refine ⟨fun p => ?_, ?_⟩
             · (go_at_call 10; exact calls_bl (kA p))
             go_big_quiet_on)))
      refine wpQuiet_nil ?_
      intro wq hw'
      obtain ⟨⟨wq2, hq⟩, e⟩ := hw'
      simp only at e
      subst e
      have h2 := h1.below hq
      have hb2 := hb1.trans (hq.mono hb1.size)
      have yz2 := (hq.block _ (heap_lt yz)).trans yz
      clear y0 y1 kA c0 h1
      have y0 := cell_of yz2 0
      have y1 := cell_of yz2 1
      simp at y0 y1
      have kP := rput_any wq.drew B r X v h2.drew j hjl hl k
      go_upto_region 5 with fail
      go_region_held3 (fun w' => w'.cell? ⟨w.heap.size, 0, none⟩ = some (.int .i64 k.1) ∧ w'.cell? ⟨w.heap.size, 1, none⟩ = some (.int .u64 k.2)) ((refine ⟨?_, ?_⟩ <;> repeat (with_reducible (first | assumption | apply cell_dr)))) (first
        | (go_at_call 28; go_loud (refine kP.mono ?_; rintro e w5 ⟨rfl, hR5, hF5⟩; have yz5 := (hF5.keep _ (heap_lt yz2) (by rintro rfl; have := h2.cells; rw [yz2] at this; cases this)).trans yz2; have y05 : w5.cell? ⟨w.heap.size, 0, none⟩ = some (.int .i64 k.1) := (by rw [cell_of yz5]; rfl); have y15 : w5.cell? ⟨w.heap.size, 1, none⟩ = some (.int .u64 k.2) := (by rw [cell_of yz5]; rfl))))
      go_wp2
      all_goals go_returns
      all_goals exact ⟨by rw [hr.out]; rfl, by rw [hkk.out]; simpa using hR5, (FR.bel' hb2.drew hB).trans hF5⟩
/-- Each side under the other's calls. -/
theorem Tk.fr {w w' : World} {B b r : Nat} {K X : List HKey} {v : Value} (h : Tk w B b K) (hR : Rl w B r X v) (hF : FR B r w w') : Tk w' B b K := by
  obtain ⟨m, top, M, T, h1, rfl⟩ := h
  have hb : b ≠ r := by rintro rfl; have := hR.cells; rw [h1.cells] at this; cases this
  obtain ⟨nn, F, hm, hm2⟩ := h1.map
  have hmr : m ≠ r := by rintro rfl; exact hm.notcells hR.cells
  refine ⟨m, top, M, T, ⟨(hF.keep _ (heap_lt h1.cells) hb).trans h1.cells, h1.bB, h1.mB, fun a x hx => ⟨(h1.ms a x hx).1, (hF.keep a (h1.ms.lt hx) ?_).trans (h1.ms.at hx)⟩, h1.wh, h1.avl, ⟨nn, F, hm.keep (hF.keep _ hm.lt hmr), hm2⟩, h1.nd, h1.kd, h1.len⟩, rfl⟩
  rintro rfl
  have := hR.cells
  rw [h1.ms.at hx] at this
  cases this
theorem Rl.ft {w w' : World} {B r : Nat} {X : List HKey} {v : Value} (h : Rl w B r X v) (hF : Ft B w w') : Rl w' B r X v :=
  h.keep ((hF.keep _ _ _ h.cells (by decide)).trans h.cells.symm) fun g hg => by
    obtain ⟨cur, e⟩ := row_cells h.row hg
    rw [e, hF.keep _ _ _ e (by decide)]
set_option maxHeartbeats 2000000 in
theorem alike_any (w : World) (B b r : Nat) (K : List HKey) (v : Value) (h : Tk w B b K) (hR : Rl w B r K v) :
    Calls Try.prog 17 #[.pointer (some ⟨b, 0, none⟩), .pointer (some ⟨r, 0, none⟩)] w fun e w' => e = .returned (.bool true) ∧ Below w.heap.size w w' := by
  have kA := all_tk w B b K h
  have hlK := hR.len
  go_enter Try.func17, Try.ntmps17
  go_upto_region 2 with (go_at_call 22; go_loud (refine kA.mono ?_; rintro e w1 ⟨v1, rfl, hrow, hb1⟩; obtain ⟨p1, c1, rfl⟩ : ∃ p cap, v1 = .slice p K.length cap := own_shape hrow))
  have h1 := h.keep hb1
  have hR1 := hR.below hb1
  clear kA h hR
  obtain ⟨pX, cX, rfl⟩ := own_shape hR1.row
  have c0 : w1.cell? ⟨r, 0, none⟩ = some (.slice pX K.length cX) := by rw [cell_of hR1.cells]; rfl
  have kL := len_tk w1 _ _ _ h1
  obtain ⟨dp, hdp, kd⟩ := deep_at h1 (K.length + 1) rfl
  have kD := kd w1 (Below.refl _ _)
  have hdl := digM_le (K.length + 1)
  have kG := dig_any (K.length + 1) (by omega) w1
  have w2 : IntKind.i64.wrap ((K.length : Int) + 1) = ((K.length + 1 : Nat) : Int) := by rw [IntWalk.i64_in _ (by omega)]; simp
  generalize digM (K.length + 1) = D at hdp kG hdl
  have w3' : IntKind.i64.wrap (2 * (D : Int)) = ((2 * D : Nat) : Int) := by rw [IntWalk.i64_in _ (by omega)]; omega
  have hdp2 : decide ((dp : Int) > ((2 * D : Nat) : Int)) = false := hdp
  generalize ((2 * D : Nat) : Int) = D2 at hdp hdp2 w3'
  have nl := fun W => (show (binOp .neq 3 (.int .i64 (K.length : Int)) (.int .i64 (K.length : Int))).run Try.prog W = .ok (.bool false) W by simp [go_sem])
  generalize ((K.length + 1 : Nat) : Int) = l1 at kG w2
  go_upto_region 4 with (first
    | (go_at_call 19; refine kD.mono ?_; rintro e w' ⟨rfl, hw⟩; rw [hw]; clear hw)
    | (go_at_call 21; refine kL.mono ?_; rintro e w' ⟨rfl, hw⟩; rw [hw]; clear hw)
    | (go_at_call 20; refine kG.mono ?_; rintro e w' ⟨rfl, hw⟩; rw [hw]; clear hw))
  clear kL kD kG kd hdp hdp2 w2 w3' c0 nl hdl
  have hkn := h1.nd
  go_wp2
  go_loopw [6, 7, 8, 9, 10] (fun n6 _ _ _ _ wk => ∃ i : Nat, n6 = .int .i64 i ∧ i ≤ K.length ∧ Below w1.heap.size w1 wk) (fun n6 _ _ _ _ _ => K.length - (valOf n6).toNat)
  case atStart => exact ⟨0, rfl, by omega, Below.refl _ _⟩
  case round =>
    obtain ⟨i, rfl, hi, hbk⟩ := hrel
    have hT := h1.keep hbk
    by_cases hin : i < K.length
    · have d : decide ((i : Int) < K.length) = true := by simp; omega
      have e9 : IntKind.i64.wrap ((i : Int) + 1) = (i : Int) + 1 := IntWalk.i64_in _ (by omega)
      obtain ⟨k, hk⟩ : ∃ k, K[i]? = some k := ⟨K[i], List.getElem?_eq_getElem hin⟩
      have ka := at_yes hT i k hk
      go_upto_region 8 with (go_at_call 15; go_loud (refine ka.mono ?_; rintro e w3 ⟨rfl, hb3⟩))
      have h4 := (hT.keep hb3).alloc (.cells #[.int .i64 k.1, .int .u64 k.2] 34)
      have za := heap_alloc_new w3 (.cells #[.int .i64 k.1, .int .u64 k.2] 34)
      have hb4 : Below w1.heap.size w1 (w3.alloc (.cells #[.int .i64 k.1, .int .u64 k.2] 34)) := (hbk.trans (hb3.mono hbk.size)).alloc (Nat.le_trans hbk.size hb3.size) _
      clear ka hT hb3 hbk
      generalize w3.alloc (.cells #[.int .i64 k.1, .int .u64 k.2] 34) = w4 at h4 za hb4 ⊢
      generalize w3.heap.size = z at za ⊢
      have hrk := row_kept hrow fun g hg => hb4.block g (hrow.lt g hg).2
      obtain ⟨g1, y1, hy1, hgl1, -, c10, c11, ha1⟩ := idx34 hrk (j := i) hin (by omega)
      rw [hk] at hy1
      obtain rfl := Option.some.inj hy1
      have ki := idx_tk w4 B b K h4 k
      have hm := List.mem_of_getElem? hk
      unfold idxR at ki
      rw [if_pos hm, decide_eq_true hm, idx_atG hkn hk] at ki
      have ha1' := ha1 w4
      replace hm : Hid _ := hm
      go_upto_region 9 with (go_at_call 16; go_loud (refine ki.mono ?_; rintro e w5 ⟨rfl, hb5⟩))
      have hb6 : Below w1.heap.size w1 w5 := hb4.trans (hb5.mono hb4.size)
      have za5 := (hb5.block _ (heap_lt za)).trans za
      have hR5 := hR1.below hb6
      have hrk5 := row_kept hrow fun g hg => hb6.block g (hrow.lt g hg).2
      clear ki c10 c11 ha1 ha1' hrk hgl1 za hb5 hb4 h4
      obtain ⟨g1, y1, hy1, hgl1, -, c10, c11, ha1⟩ := idx34 hrk5 (j := i) hin (by omega)
      obtain ⟨g2, y2, hy2, hgl2, -, c20, c21, ha2⟩ := idx34 hR5.row (j := i) hin (by omega)
      rw [hk] at hy1 hy2
      obtain rfl := Option.some.inj hy1
      obtain rfl := Option.some.inj hy2
      have c0 : w5.cell? ⟨r, 0, none⟩ = some (.slice pX K.length cX) := by rw [cell_of hR5.cells]; rfl
      have z0 := cell_of za5 0
      have z1 := cell_of za5 1
      simp at z0 z1
      have nq := fun W => neqH k.1 k.1 k.2 k.2 W
      simp only [beq_self_eq_true, Bool.and_self, Bool.not_true] at nq
      replace hk : Hid _ := hk
      go_quiet (fail)
      go_wp2
      exact ⟨⟨i + 1, by simp, by omega, Below.drewN hb6 _⟩, by simp [valOf]; omega⟩
    · have d : decide ((i : Int) < K.length) = false := by simp; omega
      go_wp2
      all_goals go_returns
      exact ⟨rfl, hb1.trans (hbk.mono hb1.size)⟩
end Go.Proofs.Ythgmfcklipkbiaa
