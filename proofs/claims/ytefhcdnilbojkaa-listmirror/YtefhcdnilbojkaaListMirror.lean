/- ListMirror: front and back make no difference but of direction: the same script, front and back exchanged, leads to the row turned about, for any script: the statement as given. No condition. -/
import Derived.Test.YtefhcdnilbojkaaLM
import Derived.Deep.CutBlock
import Derived.WalkKit
import Derived.ProofKit
import Derived.OpenShut
import Derived.ShutString
namespace Go.Proofs.Ytefhcdnilbojkaa.listMirror
open Go.ChangeShapes Go.WideShapes Go.ChangeAt Go.RowKit
open Go.ChangeMaps (open_string shut_string)
set_option linter.unusedVariables false
set_option linter.unusedSimpArgs false

theorem own : ownKnob Try.prog.godebug = none := by kernel_rfl

set_option maxRecDepth 100000 in
set_option maxHeartbeats 16000000 in
theorem walk (p0 : Option Addr) (L0 : List St) (c0 : Nat) (w : World) (hL0 : Sts w p0 L0) :
    Calls Try.prog 7 #[.slice p0 L0.length c0] w fun e w' => e = .returned (.bool true) ∧ Below w.heap.size w w' := by
  have kw := fun W => works_any W
  by_cases hlong : 300 < L0.length
  · have d : decide ((300 : Int) < (L0.length : Int)) = true := by simp; omega
    go_enter Try.func7, Try.ntmps7
    go_wp2_with (go_at_call 8; refine (kw _).mono ?_; rintro e w3 ⟨rfl, hb⟩)
    all_goals go_returns
    exact ⟨rfl, hb⟩
  have d1 : decide ((300 : Int) < (L0.length : Int)) = false := by simp; omega
  have k1 := new_li w
  have k2 := fun W => new_li W
  go_enter Try.func7, Try.ntmps7
  go_upto_region 4 with (first
    | (go_at_call 9; refine (k3 _).mono ?_; rintro e w2 ⟨b, Sb, rfl, h2, hb2⟩)
    | (go_at_call 9; go_loud (refine k1.mono ?_; rintro e w1 ⟨a, Sa, rfl, h1, hb1⟩; have k3 := k2)))
  have hM0 : Mr w2 w.heap.size a b [] Sa Sb := ⟨h1.bel hb2, h2.base hb1.size, fun x hx hy => by have := (h1.lt x hx).2; have := (h2.lt x hy).1; omega⟩
  have hb0 : Below w.heap.size w w2 := hb1.trans (hb2.mono hb1.size)
  clear k1 k2 k3 h1 h2 hb1 hb2
  generalize hB0 : w.heap.size = B at hM0 hb0 ⊢
  replace hB0 : Hid _ := hB0
  replace hL0 : Hid _ := hL0
  go_wp2
  go_loopw [5] (fun n5 wr => ∃ (i : Nat) (K : List HKey) (Sa Sb : List Nat), n5 = .int .i64 i ∧ i ≤ L0.length ∧ K.length ≤ i ∧ Mr wr B a b K Sa Sb ∧ Below B w wr) (fun n5 _ => L0.length - (valOf n5).toNat)
  case atStart => exact ⟨0, [], Sa, Sb, rfl, by omega, by simp, hM0, hb0⟩
  case round =>
    clear hM0 hb0
    obtain ⟨i, K, Sa, Sb, rfl, hi, hKi, hM, hbl⟩ := hrel
    by_cases hin : i < L0.length
    · have d : decide ((i : Int) < L0.length) = true := by simp; omega
      have e9 : IntKind.i64.wrap ((i : Int) + 1) = (i : Int) + 1 := IntWalk.i64_in _ (by omega)
      obtain ⟨xb, xo, ⟨xd, xk, xf⟩, hxi, ⟨x0, x1, x2, x3⟩, hxb, hai⟩ := idxS hL0.out hin
      simp only at x0 x1 x2 x3
      have hB1 := hB0.out
      have hbs := hbl.size
      have r0 := (hbl.cell (p := ⟨xb, xo, none⟩) (by simp; omega)).trans x0
      have r1 := (hbl.cell (p := ⟨xb, xo + 1, none⟩) (by simp; omega)).trans x1
      have r2 := (hbl.cell (p := ⟨xb, xo + 2, none⟩) (by simp; omega)).trans x2
      have r3 := (hbl.cell (p := ⟨xb, xo + 3, none⟩) (by simp; omega)).trans x3
      have hai' := hai c0
      clear hai x0 x1 x2 x3 hxi
      go_upto_region 8 with fail
      have yz := heap_alloc_new wr (.cells #[.int .i64 xd, .int .i64 xk.1, .int .u64 xk.2, .bool xf] 34)
      have hbz := (Below.refl _ wr).alloc (Nat.le_refl _) (.cells #[.int .i64 xd, .int .i64 xk.1, .int .u64 xk.2, .bool xf] 34)
      have hMz := hM.bel hbz
      have hbZ : Below B w (wr.alloc (.cells #[.int .i64 xd, .int .i64 xk.1, .int .u64 xk.2, .bool xf] 34)) := hbl.alloc hM.la.size _
      have hza : wr.heap.size ∉ Sa := fun q => by have := (hM.la.lt _ q).2; omega
      have hzb : wr.heap.size ∉ Sb := fun q => by have := (hM.lb.lt _ q).2; omega
      clear r0 r1 r2 r3 hai' hM hbl hbz
      generalize wr.alloc (.cells #[.int .i64 xd, .int .i64 xk.1, .int .u64 xk.2, .bool xf] 34) = W at yz hMz hbZ ⊢
      generalize wr.heap.size = z at yz hza hzb ⊢
      have z0 := cell_of yz 0
      have z1 := cell_of yz 1
      have z2 := cell_of yz 2
      have z3 := cell_of yz 3
      simp at z0 z1 z2 z3
      have hnd := hMz.la.nd
      go_upto_block 2 with fail
      go_cut [] (fun wx => ∃ (K' : List HKey) (Sa' Sb' : List Nat), K'.length ≤ i + 1 ∧ Mr wx B a b K' Sa' Sb' ∧ Below B w wx)
      case first =>
        by_cases h0 : xd = 0
        · subst h0
          have ka := push_li W.drew B a K Sa hMz.la.drew xk xf
          have eR : (if xk ∈ K.reverse then (7 : Int) else 0) = (if xk ∈ K then 7 else 0) := by simp
          have kb := fun (v : World) (hv : Li v B b K.reverse Sb) => push_li v B b K.reverse Sb hv xk (!xf)
          simp only [eR, push_rev] at kb
          generalize (if xk ∈ K then (7 : Int) else 0) = r at ka kb
          have dd : (r == r) = true := by simp
          go_upto_region 10 with fail
          go_region_held3 (fun w' => w'.cell? ⟨z, 1, none⟩ = some (.int .i64 xk.1) ∧ w'.cell? ⟨z, 2, none⟩ = some (.int .u64 xk.2) ∧ w'.cell? ⟨z, 3, none⟩ = some (.bool xf)) ((refine ⟨?_, ?_, ?_⟩ <;> repeat (with_reducible (first | assumption | apply cell_dr)))) (first
            | (go_at_call 19; (refine kB.mono ?_; rintro e v2 ⟨rfl, Sb', hb', fb⟩; have y3 := (fb.keep z (heap_lt y2) hzb).trans y2; have u1 := cell_of y3 1; have u2 := cell_of y3 2; have u3 := cell_of y3 3; simp at u1 u2 u3))
            | (go_at_call 19; go_loud (refine ka.mono ?_; rintro e v1 ⟨rfl, Sa', ha', fa⟩; have y2 := (fa.keep z (heap_lt yz) hza).trans yz; have t1 := cell_of y2 1; have t2 := cell_of y2 2; have t3 := cell_of y2 3; simp at t1 t2 t3; have kB := kb v1 (hMz.lb.drew.other fa (hMz.dj.symm)))))
          all_goals go_wp2
          all_goals go_meet
          all_goals exact ⟨_, Sa', Sb', by have := push_len K xk xf; omega, hMz.bel (Below.refl _ _).drew |>.two ha' fa hb' fb, (hbZ.drew.trans fa.bel).trans fb.bel⟩
        by_cases h1 : xd = 1
        · subst h1
          have ka := pop_li W B a K Sa hMz.la xf
          have kb := fun (v : World) (hv : Li v B b K.reverse Sb) => pop_li v B b K.reverse Sb hv (!xf)
          simp only [end_rev, pop_rev hnd] at kb
          rw [oV_eq] at ka
          simp only [oV_eq] at kb
          go_upto_region 14 with (go_at_call 21; go_loud (refine ka.mono ?_; rintro e v1 ⟨rfl, Sa', ha', fa⟩))
          have y1 := heap_al ((fa.keep z (heap_lt yz) hza).trans yz) (.cells #[.int .i64 (o1 (endM K xf)), .int .u64 (o2 (endM K xf))] 32)
          have ya := heap_alloc_new v1 (.cells #[.int .i64 (o1 (endM K xf)), .int .u64 (o2 (endM K xf))] 32)
          have hbv := (Below.refl _ v1).alloc (Nat.le_refl _) (.cells #[.int .i64 (o1 (endM K xf)), .int .u64 (o2 (endM K xf))] 32)
          have hLb := hMz.lb.other fa hMz.dj.symm
          have hd1 := hMz.dj.left fa (fun x hx => (hMz.lb.lt x hx).2)
          have hw2 : Below B w (v1.alloc (.cells #[.int .i64 (o1 (endM K xf)), .int .u64 (o2 (endM K xf))] 32)) := (hbZ.trans fa.bel).alloc ha'.size _
          have hM2 : Li (v1.alloc (.cells #[.int .i64 (o1 (endM K xf)), .int .u64 (o2 (endM K xf))] 32)) B a (popM K xf) Sa' := ha'.bel hbv
          have hL2 := hLb.bel hbv
          have hvb : v1.heap.size ∉ Sb := fun q => by have := (hLb.lt _ q).2; omega
          clear ka hbv hLb z0 z1 z2 z3
          generalize v1.alloc (.cells #[.int .i64 (o1 (endM K xf)), .int .u64 (o2 (endM K xf))] 32) = v2 at y1 ya hw2 hM2 hL2 ⊢
          generalize v1.heap.size = za at ya hvb ⊢
          have z3 := cell_of y1 3
          simp at z3
          have kB := kb v2 hL2
          go_upto_region 15 with (go_at_call 21; go_loud (refine kB.mono ?_; rintro e v3 ⟨rfl, Sb', hb', fb⟩))
          have ya3 := heap_al ((fb.keep za (heap_lt ya) hvb).trans ya) (.cells #[.int .i64 (o1 (endM K xf)), .int .u64 (o2 (endM K xf))] 32)
          have yb3 := heap_alloc_new v3 (.cells #[.int .i64 (o1 (endM K xf)), .int .u64 (o2 (endM K xf))] 32)
          have hbv := (Below.refl _ v3).alloc (Nat.le_refl _) (.cells #[.int .i64 (o1 (endM K xf)), .int .u64 (o2 (endM K xf))] 32)
          have hM4 : Mr (v3.alloc (.cells #[.int .i64 (o1 (endM K xf)), .int .u64 (o2 (endM K xf))] 32)) B a b (popM K xf) Sa' Sb' := Mr.bel ⟨hM2.other fb hd1, hb', (hd1.symm.left fb (fun x hx => (hM2.lt x hx).2)).symm⟩ hbv
          have hw4 : Below B w (v3.alloc (.cells #[.int .i64 (o1 (endM K xf)), .int .u64 (o2 (endM K xf))] 32)) := (hw2.trans fb.bel).alloc hb'.size _
          clear kB z3 hbv
          generalize v3.alloc (.cells #[.int .i64 (o1 (endM K xf)), .int .u64 (o2 (endM K xf))] 32) = v4 at ya3 yb3 hM4 hw4 ⊢
          generalize v3.heap.size = zb at yb3 ⊢
          have a0 := cell_of ya3 0
          have a1 := cell_of ya3 1
          have b0 := cell_of yb3 0
          have b1 := cell_of yb3 1
          simp at a0 a1 b0 b1
          have nq := fun W => neqH (o1 (endM K xf)) (o1 (endM K xf)) (o2 (endM K xf)) (o2 (endM K xf)) W
          simp only [beq_self_eq_true, Bool.and_self, Bool.not_true] at nq
          have dq : ((endM K xf).isSome == (endM K xf).isSome) = true := by simp
          go_wp2
          go_meet
          exact ⟨_, Sa', Sb', by have := pop_len K xf; omega, hM4, hw4⟩
        by_cases h2 : xd = 2
        · subst h2
          have ka := remove_li W.drew B a K Sa hMz.la.drew xk
          have kb := fun (v : World) (hv : Li v B b K.reverse Sb) => remove_li v B b K.reverse Sb hv xk
          have eR : decide (xk ∈ K.reverse) = decide (xk ∈ K) := by simp
          simp only [eR, erase_rev hnd] at kb
          generalize decide (xk ∈ K) = r at ka kb
          have dd : (r == r) = true := by simp
          go_upto_region 18 with fail
          go_region_held3 (fun w' => w'.cell? ⟨z, 1, none⟩ = some (.int .i64 xk.1) ∧ w'.cell? ⟨z, 2, none⟩ = some (.int .u64 xk.2) ∧ w'.cell? ⟨z, 3, none⟩ = some (.bool xf)) ((refine ⟨?_, ?_, ?_⟩ <;> repeat (with_reducible (first | assumption | apply cell_dr)))) (first
            | (go_at_call 23; (refine kB.mono ?_; rintro e v2 ⟨rfl, Sb', hb', fb⟩; have y3 := (fb.keep z (heap_lt y2) hzb).trans y2; have u1 := cell_of y3 1; have u2 := cell_of y3 2; have u3 := cell_of y3 3; simp at u1 u2 u3))
            | (go_at_call 23; go_loud (refine ka.mono ?_; rintro e v1 ⟨rfl, Sa', ha', fa⟩; have y2 := (fa.keep z (heap_lt yz) hza).trans yz; have t1 := cell_of y2 1; have t2 := cell_of y2 2; have t3 := cell_of y2 3; simp at t1 t2 t3; have kB := kb v1 (hMz.lb.drew.other fa (hMz.dj.symm)))))
          all_goals go_wp2
          all_goals go_meet
          all_goals exact ⟨_, Sa', Sb', by have := erase_len K xk; omega, hMz.bel (Below.refl _ _).drew |>.two ha' fa hb' fb, (hbZ.drew.trans fa.bel).trans fb.bel⟩
        have g0 : (xd == 0) = false := by simpa using h0
        have g1 : (xd == 1) = false := by simpa using h1
        have g2 : (xd == 2) = false := by simpa using h2
        go_wp2
        go_meet
        exact ⟨K, Sa, Sb, by omega, hMz, hbZ⟩
      case rest =>
        clear z0 z1 z2 z3 yz hMz hbZ hza hzb hnd
        obtain ⟨K', Sa', Sb', hKl, hM', hb'⟩ := hcut
        have kA := all_li wc B a K' Sa' hM'.la (by omega)
        have kb := fun W hb => all_li W B b K'.reverse Sb' (hM'.lb.bel (w' := W) hb) (by simp; omega)
        simp only [List.length_reverse] at kb
        go_upto_region 21 with (first
          | (go_at_call 12; refine kB.mono ?_; rintro e v2 ⟨vb, rfl, hrb, hbB⟩; obtain ⟨pb, cb, rfl⟩ : ∃ p cap, vb = .slice p K'.length cap := own_shape hrb)
          | (go_at_call 12; refine kA.mono ?_; rintro e v1 ⟨va, rfl, hra, hbA⟩; obtain ⟨pa, ca, rfl⟩ : ∃ p cap, va = .slice p K'.length cap := own_shape hra; have kB := kb v1 hbA))
        have hra2 := row_kept hra fun g hg => (hbB.block g (hra.lt g hg).2)
        have hbAB : Below wc.heap.size wc v2 := hbA.trans (hbB.mono hbA.size)
        have hM2 := hM'.bel hbAB
        have hb2 : Below B w v2 := hb'.trans (hbAB.mono hM'.la.size)
        have hrb2 : v2.ownsRow v1.heap.size 32 2 (.slice pb K'.reverse.length cb) K'.reverse.length (hCells K'.reverse) := by rw [List.length_reverse]; exact hrb
        clear kA kb kB hra hrb hbA hbB hbAB hM' hb'
        go_wp2
        go_loopw [13] (fun n13 wk => ∃ k : Nat, n13 = .int .i64 k ∧ k ≤ K'.length ∧ Below v2.heap.size v2 wk) (fun n13 _ => K'.length - (valOf n13).toNat)
        case atStart => exact ⟨0, rfl, by omega, Below.refl _ _⟩
        case round =>
          obtain ⟨k, rfl, hk, hbk⟩ := hrel
          by_cases hkl : k < K'.length
          · have dk : decide ((k : Int) < K'.length) = true := by simp; omega
            have e8 : IntKind.i64.wrap ((k : Int) + 1) = (k : Int) + 1 := IntWalk.i64_in _ (by omega)
            have e7 : IntKind.i64.wrap ((K'.length : Int) - 1) = (K'.length : Int) - 1 := IntWalk.i64_in _ (by omega)
            have e6 : IntKind.i64.wrap ((K'.length : Int) - 1 - k) = (K'.length : Int) - 1 - k := IntWalk.i64_in _ (by omega)
            have ek : (K'.length : Int) - 1 - k = ((K'.length - 1 - k : Nat) : Int) := by omega
            have hrak := row_kept hra2 fun g hg => hbk.block g (hra2.lt g hg).2
            have hrbk := row_kept hrb2 fun g hg => hbk.block g (hrb2.lt g hg).2
            obtain ⟨g1, ⟨ys, yg⟩, hy, hgl1, -, t0, t1, hai1⟩ := idx34 hrak hkl (by omega)
            obtain ⟨g2, ⟨us, ug⟩, hu, hgl2, -, s0, s1, hai2⟩ := idx34 hrbk (j := K'.length - 1 - k) (by simp; omega) (by simp; omega)
            rw [rev_at hkl, hy] at hu
            obtain ⟨rfl, rfl⟩ : ys = us ∧ yg = ug := by simpa using hu
            simp only at t0 t1 s0 s1
            rw [List.length_reverse, ← ek] at hai2
            clear ek hu hy
            have nq := fun W => neqH ys ys yg yg W
            simp only [beq_self_eq_true, Bool.and_self, Bool.not_true] at nq
            go_upto_region 26 with fail
            go_quiet (fail)
            go_wp2
            exact ⟨⟨k + 1, by simp, by omega, Below.drewN hbk _⟩, by simp [valOf]; omega⟩
          · have dk : decide ((k : Int) < K'.length) = false := by simp; omega
            go_wp2
            exact ⟨⟨i + 1, K', Sa', Sb', by simp, by omega, hKl, hM2.bel hbk, hb2.trans (hbk.mono hM2.la.size)⟩, by simp [valOf]; omega⟩
    · have d : decide ((i : Int) < L0.length) = false := by simp; omega
      obtain rfl : i = L0.length := by omega
      go_wp2_with (go_at_call 8; refine (kw _).mono ?_; rintro e w9 ⟨rfl, hb9⟩)
      all_goals go_returns
      have hbe := hbl.trans (hb9.mono hM.la.size)
      exact ⟨rfl, by rw [hB0.out]; exact hbe⟩

theorem readable : ∀ t ∈ Try.f7.params.toList, Try.prog.readableRec t = true ∧ t < Try.prog.types.size := by
  rw [Try.params7]
  intro t ht
  simp at ht
  rcases ht with rfl
  all_goals exact ⟨by kernel_rfl, of_decide_eq_true (by kernel_rfl)⟩
set_option maxRecDepth 100000 in
theorem lifted (os : Os) (started : os.Started) (H : Type) (enc : TypeId × Value → H) :
    ReturnsInHanded {} Try.checked os 7 .any (Rows.listMirrorSpec.pre6 enc Try.prog Try.f7 Rows.listMirrorRow.domain false) (Rows.listMirrorSpec.post enc Try.prog Try.f7 false true false false) := by
  refine returnsInHanded_of_change (C := Try.checked) own started (by kernel_rfl) Try.func7
    (ChangeSpec.witness6 (enc := enc) (C := Try.checked) false ⟨#[], #[.slice none 0 0], []⟩ 8 (by kernel_rfl) (by kernel_rfl) (by kernel_rfl) (by kernel_rfl)) ?_
  intro W base args ds gs before hval0 hW hcnd _
  have hval : ∀ (j : Nat) t v, Try.f7.params[j]? = some t → args[j]? = some v → Value.okWide Try.prog W .any base t v := hval0
  have hW' := hW
  obtain ⟨p, q, hA0, hV, rfl, hfz, hnd⟩ := hW
  have hA : DataW.TrodAll enc Try.prog W 0 (fun _ => true) true Try.f7.params.toList args.toList ds p := hA0
  rw [Try.params7] at hA hval
  obtain ⟨v0, vs0, d0, ds0, p0, q0, hargs, rfl, rfl, h0, r0⟩ := trodAll_cons hA
  obtain ⟨rfl, rfl, rfl⟩ := trodAll_nil r0
  obtain rfl : args = #[v0] := by cases args; simp_all
  obtain ⟨rfl, rfl⟩ := trodVars_none hV
  obtain ⟨p0, L0, c0, rfl, hL0⟩ := open_sts (hval 0 22 v0 rfl rfl) h0
  clear hA0 hval0
  refine (walk p0 L0 c0 W hL0).mono fun e W' ⟨he, hg⟩ => ?_
  subst he
  exact ⟨_, rfl, post_bel readable hW' rfl (fun _ _ _ => (trodAll_cons_mk (shut_bool Try.underlying4 _) trodAll_mk0)) rfl (fun _ => rfl)
    hg (ok_one (by kernel_rfl) rfl (okWide_bool_mk Try.underlying4 _))⟩

theorem over : Rows.listMirrorRow.holds Try.pinned (OpenSpec.ofChange Rows.listMirrorSpec) :=
  OpenClaim.holds_of_wide 7 Try.f7 rfl rfl rfl rfl rfl rfl rfl ⟨rfl, rfl, rfl, rfl, rfl⟩ rfl rfl rfl rfl rfl (by kernel_rfl) Try.func7 (by kernel_rfl)
    (of_decide_eq_true (by kernel_rfl)) (by unfold Func.isWrapper; first | (rw [if_pos (by decide +kernel)]; kernel_rfl) | (rw [if_neg (by decide +kernel)]; exact ⟨rfl, rfl⟩))
    (fun os started H enc _ => lifted os started H enc)

theorem proved : Rows.ListMirrorSaid :=
  over
end Go.Proofs.Ytefhcdnilbojkaa.listMirror
namespace Go.Proofs.Ytefhcdnilbojkaa
theorem listMirror_holds : Rows.ListMirrorSaid :=
  listMirror.proved
#print axioms listMirror_holds
end Go.Proofs.Ytefhcdnilbojkaa
