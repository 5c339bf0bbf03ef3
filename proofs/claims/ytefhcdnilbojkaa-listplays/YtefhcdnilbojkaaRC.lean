/- Towards ListPlays: same, does. -/
import Derived.Test.YtefhcdnilbojkaaRB
import Derived.Test.YtefhcdnilbojkaaLM
import Derived.Deep.RegionHeld
namespace Go.Proofs.Ytefhcdnilbojkaa
open Go.ChangeShapes Go.WideShapes Go.ChangeAt Go.RowKit
set_option linter.unusedVariables false
set_option linter.unusedSimpArgs false
set_option maxRecDepth 20000
theorem wpAnyH_mono {P : Program} {md : Region.Mode} {ops : Array Oper} {Q : Exit → Act → World → Prop} {S S' : World → Prop} (h : ∀ w, S' w → S w) : ∀ (fuel : Nat) (listed : Array Bool) (a : Act) (w : World), wpAnyH P md ops Q S' fuel listed a w → wpAnyH P md ops Q S fuel listed a w
  | 0, _, _, _, hh => hh
  | fuel + 1, _, _, _, hh => ⟨hh.1, fun i hi => wpOp_mono (fun a' w' h' => ⟨h w' h'.1, wpAnyH_mono h fuel _ a' w' h'.2⟩) (hh.2 i hi)⟩
theorem same_any (w : World) (B1 B2 : Nat) (K : List HKey) (p1 p2 : Option Addr) (c1 c2 : Nat) (h1 : w.ownsRow B1 32 2 (.slice p1 K.length c1) K.length (hCells K)) (h2 : w.ownsRow B2 32 2 (.slice p2 K.length c2) K.length (hCells K)) (hl : K.length ≤ 100000) :
    Calls Try.prog 11 #[.slice p1 K.length c1, .slice p2 K.length c2] w fun e w' => e = .returned (.bool true) ∧ Below w.heap.size w w' := by
  go_enter Try.func11, Try.ntmps11
  go_wp2
  go_loopw [5] (fun n5 wr => ∃ j : Nat, n5 = .int .i64 j ∧ j ≤ K.length ∧ Below w.heap.size w wr) (fun n5 _ => K.length - (valOf n5).toNat)
  case atStart => exact ⟨0, rfl, by omega, Below.refl _ _⟩
  case round =>
    obtain ⟨j, rfl, hj, hbr⟩ := hrel
    have r1 := row_kept h1 fun g hg => hbr.block g (h1.lt g hg).2
    have r2 := row_kept h2 fun g hg => hbr.block g (h2.lt g hg).2
    by_cases hin : j < K.length
    · have d : decide ((j : Int) < K.length) = true := by simp; omega
      have e9 : IntKind.i64.wrap ((j : Int) + 1) = (j : Int) + 1 := IntWalk.i64_in _ (by omega)
      obtain ⟨g1, x, hx, -, -, t0, t1, hai1⟩ := idx34 r1 hin (by omega)
      obtain ⟨g2, y, hy, -, -, s0, s1, hai2⟩ := idx34 r2 hin (by omega)
      rw [hx] at hy
      obtain rfl := Option.some.inj hy
      have nq := fun W => neqH x.1 x.1 x.2 x.2 W
      simp only [beq_self_eq_true, Bool.and_self, Bool.not_true] at nq
      clear hx hy
      go_upto_region 6 with fail
      go_quiet (fail)
      go_wp2
      exact ⟨⟨j + 1, by simp, by omega, Below.drewN hbr _⟩, by simp [valOf]; omega⟩
    · have d : decide ((j : Int) < K.length) = false := by simp; omega
      go_wp2
      all_goals go_returns
      exact ⟨rfl, hbr⟩
/-- The list and the document's, of the same row. -/
structure Pl (w : World) (B b r : Nat) (K : List HKey) (S : List Nat) (v : Value) : Prop where
  l : Li w B b K S
  r : Rl w B r K v
theorem Pl.below {w w' : World} {B b r : Nat} {K : List HKey} {S : List Nat} {v : Value} (h : Pl w B b r K S v) (hb : Below w.heap.size w w') : Pl w' B b r K S v := ⟨h.l.bel hb, h.r.below hb⟩
theorem Rl.fl {w w' : World} {B b r : Nat} {K X : List HKey} {S S' : List Nat} {v : Value} (h : Rl w B r X v) (hL : Li w B b K S) (hF : FL B S S' w w') : Rl w' B r X v :=
  h.keep (hF.keep r (heap_lt h.cells) (hL.notrow h.cells (by decide) (by decide))) fun g hg => hF.keep g (h.row.lt g hg).2 (by obtain ⟨cu, hcu⟩ := row_cells h.row hg; exact hL.notrow hcu (by decide) (by decide))
theorem Li.fr {w w' : World} {B b r : Nat} {K X : List HKey} {S : List Nat} {v : Value} (h : Li w B b K S) (hR : Rl w B r X v) (hF : FR B r w w') : Li w' B b K S :=
  h.keep fun k hk => hF.keep k (h.lt k hk).2 (fun e => h.notrow hR.cells (by decide) (by decide) (e ▸ hk))
theorem cut_mid {K : List HKey} (hn : K.Nodup) {j : Nat} {k : HKey} (h : K[j]? = some k) : K.take j ++ K.drop (j + 1) = K.erase k := by
  have hj := (List.getElem?_eq_some_iff.1 h).1
  have e : K = K.take j ++ k :: K.drop (j + 1) := by
    have h2 := List.drop_eq_getElem_cons hj
    have h3 : K[j] = k := (List.getElem?_eq_some_iff.1 h).2
    rw [h3] at h2
    rw [← h2, List.take_append_drop]
  have hk : k ∉ K.take j := by
    intro q
    have hn2 := hn
    rw [e, List.nodup_append] at hn2
    exact hn2.2.2 k q k (by simp) rfl
  have e2 : K.erase k = (K.take j ++ k :: K.drop (j + 1)).erase k := congrArg (fun l => l.erase k) e
  rw [e2, List.erase_append_right _ hk, List.erase_cons_head]
theorem end_some {K : List HKey} (hn : K.Nodup) (h0 : 0 < K.length) (q : Bool) : ∃ (j : Nat) (k : HKey), endI K.length q = j ∧ j < K.length ∧ K[j]? = some k ∧ endM K q = some k ∧ K.take j ++ K.drop (j + 1) = popM K q := by
  cases q with
  | true =>
    have hk := List.getElem?_eq_getElem h0
    have he : endM K true = some K[0] := by rw [endM, if_pos rfl, List.head?_eq_getElem?, hk]
    exact ⟨0, K[0], by simp [endI, h0], h0, hk, he, by rw [popM, he]; exact cut_mid hn hk⟩
  | false =>
    have hl : K.length - 1 < K.length := by omega
    have hk := List.getElem?_eq_getElem hl
    have he : endM K false = some K[K.length - 1] := by rw [endM, if_neg (by simp), List.getLast?_eq_getElem?, hk]
    exact ⟨K.length - 1, _, by simp [endI]; omega, hl, hk, he, by rw [popM, he]; exact cut_mid hn hk⟩
theorem end_none {K : List HKey} (h0 : ¬ 0 < K.length) (q : Bool) : K = [] ∧ endI K.length q = -1 ∧ endM K q = none := by
  have : K = [] := List.eq_nil_of_length_eq_zero (by omega)
  subst this
  cases q <;> simp [endI, endM]
/-- All that is neither the list's nor the document's is as it was. -/
structure KP (S : List Nat) (r : Nat) (w w' : World) : Prop where
  size : w.heap.size ≤ w'.heap.size
  keep : ∀ k, k < w.heap.size → k ∉ S → k ≠ r → w'.heap[k]? = w.heap[k]?
theorem KP.bel {S : List Nat} {r : Nat} {w w' : World} (h : Below w.heap.size w w') : KP S r w w' := ⟨h.size, fun k hk _ _ => h.block k hk⟩
theorem KP.fl {B r : Nat} {S S' : List Nat} {w w' : World} (h : FL B S S' w w') : KP S r w w' := ⟨h.bel.size, fun k hk h1 _ => h.keep k hk h1⟩
theorem KP.fr {B r : Nat} {S : List Nat} {w w' : World} (h : FR B r w w') : KP S r w w' := ⟨h.bel.size, fun k hk _ h1 => h.keep k hk h1⟩
theorem KP.trans {r : Nat} {S : List Nat} {w w' w'' : World} (h : KP S r w w') (k : KP S r w' w'') : KP S r w w'' :=
  ⟨Nat.le_trans h.size k.size, fun i hi h1 h2 => (k.keep i (Nat.lt_of_lt_of_le hi h.size) h1 h2).trans (h.keep i hi h1 h2)⟩
theorem KP.alloc {r : Nat} {S : List Nat} {w w' : World} (h : KP S r w w') (o : Obj) : KP S r w (w'.alloc o) := h.trans (KP.bel ((Below.refl _ w').alloc (Nat.le_refl _) _))
theorem KP.drew {r : Nat} {S : List Nat} {w w' : World} (h : KP S r w w') : KP S r w w'.drew := ⟨h.size, h.keep⟩
set_option maxHeartbeats 4000000 in
theorem does_any (w : World) (B b r : Nat) (K : List HKey) (S : List Nat) (v : Value) (h : Pl w B b r K S v) (hl : K.length + 1 ≤ 1000) (xd : Int) (xk : HKey) (xf : Bool) :
    Calls Try.prog 10 #[.pointer (some ⟨b, 0, none⟩), .pointer (some ⟨r, 0, none⟩), .agg #[.int .i64 xd, .int .i64 xk.1, .int .u64 xk.2, .bool xf]] w fun e w' => e = .returned (.bool true) ∧ (∃ K' S' v', Pl w' B b r K' S' v' ∧ K'.length ≤ K.length + 1) ∧ Below B w w' ∧ KP S r w w' := by
  have hnd := h.l.nd
  have hbz := (Below.refl _ w).alloc (Nat.le_refl _) (.cells #[.int .i64 xd, .int .i64 xk.1, .int .u64 xk.2, .bool xf] 34)
  have hP := h.below hbz
  have yz := heap_alloc_new w (.cells #[.int .i64 xd, .int .i64 xk.1, .int .u64 xk.2, .bool xf] 34)
  have hzS : w.heap.size ∉ S := fun q => by have := (h.l.lt _ q).2; omega
  have hzr : w.heap.size ≠ r := by have := heap_lt h.r.cells; omega
  have hBw := h.l.size
  have hbB := hbz.mono hBw
  have hKP : KP S r w (w.alloc (.cells #[.int .i64 xd, .int .i64 xk.1, .int .u64 xk.2, .bool xf] 34)) := KP.bel hbz
  go_enter Try.func10, Try.ntmps10
  go_upto_region 1 with fail
  generalize w.alloc (.cells #[.int .i64 xd, .int .i64 xk.1, .int .u64 xk.2, .bool xf] 34) = W at yz hP hbB hKP ⊢
  generalize w.heap.size = z at yz hzS hzr ⊢
  have z0 := cell_of yz 0
  have z1 := cell_of yz 1
  have z2 := cell_of yz 2
  have z3 := cell_of yz 3
  simp at z0 z1 z2 z3
  by_cases h0 : xd = 0
  · subst h0
    have ka := push_li W.drew B b K S hP.l.drew xk xf
    have kb := fun (u : World) (hu : Rl u B r K v) => rpush_any u B r K v hu hl xk xf
    generalize (if xk ∈ K then (7 : Int) else 0) = t at ka kb
    have dd : (t == t) = true := by simp
    go_upto_region 3 with fail
    go_region_held3 (fun w' => w'.cell? ⟨z, 1, none⟩ = some (.int .i64 xk.1) ∧ w'.cell? ⟨z, 2, none⟩ = some (.int .u64 xk.2) ∧ w'.cell? ⟨z, 3, none⟩ = some (.bool xf)) ((refine ⟨?_, ?_, ?_⟩ <;> repeat (with_reducible (first | assumption | apply cell_dr)))) (first
      | (go_at_call 19; go_loud (refine ka.mono ?_; rintro e v1 ⟨rfl, Sa', ha', fa⟩; have y2 := (fa.keep z (heap_lt yz) hzS).trans yz; have t1 := cell_of y2 1; have t2 := cell_of y2 2; have t3 := cell_of y2 3; simp at t1 t2 t3; have hR1 := hP.r.drew.fl hP.l.drew fa; have kB := kb v1 hR1))
      | (go_at_call 25; go_loud (refine kB.mono ?_; rintro e v2 ⟨rfl, ⟨u', hR'⟩, fb⟩; have y3 := (fb.keep z (heap_lt y2) hzr).trans y2; have u1 := cell_of y3 1; have u2 := cell_of y3 2; have u3 := cell_of y3 3; simp at u1 u2 u3)))
    all_goals go_wp2
    all_goals go_returns
    all_goals exact ⟨rfl, ⟨_, Sa', u', ⟨ha'.fr hR1 fb, hR'⟩, push_len K xk xf⟩, (hbB.drew.trans fa.bel).trans fb.bel, (hKP.drew.trans (KP.fl fa)).trans (KP.fr fb)⟩
  by_cases h1 : xd = 1
  · subst h1
    have ka := pop_li W B b K S hP.l xf
    by_cases hK : 0 < K.length
    · obtain ⟨j, ⟨s, g⟩, e1, hj, hjk, e2, e3⟩ := end_some hnd hK xf
      rw [e2] at ka
      simp only [oV, Option.isSome_some] at ka
      have ke := fun (u : World) (hu : Rl u B r K v) => rend_any u B r K v hu xf
      rw [e1] at ke
      have kc := fun (u : World) (hu : Rl u B r K v) => rcut_any u B r K v hu j (s, g) hjk
      rw [e3] at kc
      have d0 : decide ((j : Int) < 0) = false := by simp
      go_upto_region 6 with (go_at_call 21; go_loud (refine ka.mono ?_; rintro e v1 ⟨rfl, Sa', ha', fa⟩))
      have y2 := heap_al ((fa.keep z (heap_lt yz) hzS).trans yz) (.cells #[.int .i64 s, .int .u64 g] 32)
      have ya := heap_alloc_new v1 (.cells #[.int .i64 s, .int .u64 g] 32)
      have hR1 := (hP.r.fl hP.l fa).alloc (.cells #[.int .i64 s, .int .u64 g] 32)
      have hL1 := ha'.alloc (.cells #[.int .i64 s, .int .u64 g] 32)
      have hw1 : Below B w (v1.alloc (.cells #[.int .i64 s, .int .u64 g] 32)) := (hbB.trans fa.bel).alloc ha'.size _
      have hK1 : KP S r w (v1.alloc (.cells #[.int .i64 s, .int .u64 g] 32)) := (hKP.trans (KP.fl fa)).alloc _
      have har : v1.heap.size ≠ r := by have := heap_lt (hP.r.fl hP.l fa).cells; omega
      clear ka z0 z1 z2 z3
      generalize v1.alloc (.cells #[.int .i64 s, .int .u64 g] 32) = v2 at y2 ya hR1 hL1 hw1 hK1 ⊢
      generalize v1.heap.size = a at ya har ⊢
      have z3 := cell_of y2 3
      simp at z3
      have kE := ke v2 hR1
      go_upto_region 9 with (go_at_call 17; refine kE.mono ?_; rintro e w' ⟨rfl, hw⟩; rw [hw]; clear hw)
      have a0 := cell_of ya 0
      have a1 := cell_of ya 1
      simp at a0 a1
      have kC := kc v2.drew hR1.drew
      have q1 := fun W => eqlH s s g g W
      simp only [beq_self_eq_true, Bool.and_self] at q1
      go_region_held3 (fun w' => w'.cell? ⟨a, 0, none⟩ = some (.int .i64 s) ∧ w'.cell? ⟨a, 1, none⟩ = some (.int .u64 g)) ((refine ⟨?_, ?_⟩ <;> repeat (with_reducible (first | assumption | apply cell_dr)))) (first
        | (go_at_call 26; go_loud (refine kC.mono ?_; rintro e v3 ⟨rfl, ⟨u', hR'⟩, fb⟩; have y3 := (fb.keep a (heap_lt ya) har).trans ya; have u0 := cell_of y3 0; have u1 := cell_of y3 1; simp at u0 u1)))
      all_goals go_wp2
      all_goals go_returns
      all_goals exact ⟨rfl, ⟨_, Sa', u', ⟨hL1.drew.fr hR1.drew fb, hR'⟩, Nat.le_trans (pop_len K xf) (Nat.le_succ _)⟩, hw1.drew.trans fb.bel, hK1.drew.trans (KP.fr fb)⟩
    · obtain ⟨rfl, e1, e2⟩ := end_none hK xf
      have hp0 : popM [] xf = [] := by rw [popM, e2]
      rw [hp0, e2] at ka
      simp only [oV, Option.isSome_none] at ka
      have ke := fun (u : World) (hu : Rl u B r [] v) => rend_any u B r [] v hu xf
      rw [e1] at ke
      go_upto_region 6 with (go_at_call 21; go_loud (refine ka.mono ?_; rintro e v1 ⟨rfl, Sa', ha', fa⟩))
      have y2 := heap_al ((fa.keep z (heap_lt yz) hzS).trans yz) (.cells #[.int .i64 0, .int .u64 0] 32)
      have ya := heap_alloc_new v1 (.cells #[.int .i64 0, .int .u64 0] 32)
      have hR1 := (hP.r.fl hP.l fa).alloc (.cells #[.int .i64 0, .int .u64 0] 32)
      have hL1 := ha'.alloc (.cells #[.int .i64 0, .int .u64 0] 32)
      have hw1 : Below B w (v1.alloc (.cells #[.int .i64 0, .int .u64 0] 32)) := (hbB.trans fa.bel).alloc ha'.size _
      have hK1 : KP S r w (v1.alloc (.cells #[.int .i64 0, .int .u64 0] 32)) := (hKP.trans (KP.fl fa)).alloc _
      clear ka z0 z1 z2 z3
      generalize v1.alloc (.cells #[.int .i64 0, .int .u64 0] 32) = v2 at y2 ya hR1 hL1 hw1 hK1 ⊢
      generalize v1.heap.size = a at ya ⊢
      have z3 := cell_of y2 3
      have a0 := cell_of ya 0
      have a1 := cell_of ya 1
      simp at z3 a0 a1
      have kE := ke v2 hR1
      have q1 := fun W => eqlH 0 0 0 0 W
      simp only [beq_self_eq_true, Bool.and_self] at q1
      go_wp2_with (go_at_call 17; refine kE.mono ?_; rintro e w' ⟨rfl, hw⟩; rw [hw]; clear hw)
      all_goals go_returns
      all_goals exact ⟨rfl, ⟨[], Sa', v, ⟨hL1, hR1⟩, by simp⟩, hw1, hK1⟩
  by_cases h2 : xd = 2
  · subst h2
    have ka := rat_any W B r K v hP.r xk
    have kr := fun (u : World) (hu : Li u B b K S) => remove_li u B b K S hu xk
    by_cases hk : xk ∈ K
    · have ka2 : Calls Try.prog 15 #[.pointer (some ⟨r, 0, none⟩), .agg #[.int .i64 xk.1, .int .u64 xk.2]] W fun e w' => ∃ i : Nat, e = .returned (.int .i64 i) ∧ K[i]? = some xk ∧ Below W.heap.size W w' := ka.mono fun e w' ⟨j, h1, h2, h3⟩ => by
        rcases h2 with ⟨h2, _⟩ | ⟨i, rfl, h4, _⟩
        · exact absurd hk h2
        · exact ⟨i, h1, h4, h3⟩
      rw [decide_eq_true hk] at kr
      go_upto_region 13 with (go_at_call 15; go_loud (refine ka2.mono ?_; rintro e v1 ⟨i, rfl, hi, hb1⟩; have d0 : decide ((0 : Int) ≤ i) = true := (by simp)))
      have hP1 := hP.below hb1
      have y1 := (hb1.block _ (heap_lt yz)).trans yz
      have kc := rcut_any v1 B r K v hP1.r i xk hi
      rw [cut_mid hnd hi] at kc
      clear ka ka2 z0 z1 z2 z3
      go_upto_region 14 with (go_at_call 26; go_loud (refine kc.mono ?_; rintro e v2 ⟨rfl, ⟨u', hR'⟩, fb⟩))
      have y2 := (fb.keep z (heap_lt y1) hzr).trans y1
      have z1 := cell_of y2 1
      have z2 := cell_of y2 2
      simp at z1 z2
      have hL2 := hP1.l.fr hP1.r fb
      have kR := kr v2 hL2
      have hw2 := (hbB.trans (hb1.mono hP.l.size)).trans fb.bel
      have hK2 : KP S r w v2 := (hKP.trans (KP.bel hb1)).trans (KP.fr fb)
      go_wp2_with (go_at_call 23; go_loud (refine kR.mono ?_; rintro e v3 ⟨rfl, Sa', ha', fa⟩))
      all_goals go_returns
      all_goals exact ⟨rfl, ⟨_, Sa', u', ⟨ha', hR'.fl hL2 fa⟩, Nat.le_trans (erase_len K xk) (Nat.le_succ _)⟩, hw2.trans fa.bel, hK2.trans (KP.fl fa)⟩
    · have ka2 : Calls Try.prog 15 #[.pointer (some ⟨r, 0, none⟩), .agg #[.int .i64 xk.1, .int .u64 xk.2]] W fun e w' => e = .returned (.int .i64 (-1)) ∧ Below W.heap.size W w' := ka.mono fun e w' ⟨j, h1, h2, h3⟩ => by
        rcases h2 with ⟨_, rfl⟩ | ⟨i, _, h4, _⟩
        · exact ⟨h1, h3⟩
        · exact absurd (List.mem_of_getElem? h4) hk
      rw [decide_eq_false hk, List.erase_of_not_mem hk] at kr
      go_upto_region 14 with (go_at_call 15; go_loud (refine ka2.mono ?_; rintro e v1 ⟨rfl, hb1⟩))
      have hP1 := hP.below hb1
      have y1 := (hb1.block _ (heap_lt yz)).trans yz
      clear ka ka2 z0 z1 z2 z3
      have z1 := cell_of y1 1
      have z2 := cell_of y1 2
      simp at z1 z2
      have kR := kr v1 hP1.l
      have hw2 := hbB.trans (hb1.mono hP.l.size)
      have hK2 : KP S r w v1 := hKP.trans (KP.bel hb1)
      go_wp2_with (go_at_call 23; go_loud (refine kR.mono ?_; rintro e v3 ⟨rfl, Sa', ha', fa⟩))
      all_goals go_returns
      all_goals exact ⟨rfl, ⟨_, Sa', v, ⟨ha', hP1.r.fl hP1.l fa⟩, Nat.le_succ _⟩, hw2.trans fa.bel, hK2.trans (KP.fl fa)⟩
  have g0 : (xd == 0) = false := by simpa using h0
  have g1 : (xd == 1) = false := by simpa using h1
  have g2 : (xd == 2) = false := by simpa using h2
  go_wp2
  all_goals go_returns
  all_goals exact ⟨rfl, ⟨K, S, v, hP, Nat.le_succ _⟩, hbB, hKP⟩
end Go.Proofs.Ytefhcdnilbojkaa
