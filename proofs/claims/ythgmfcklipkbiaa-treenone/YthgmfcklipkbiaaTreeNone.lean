/- TreeNone: what no tree answers (the rules: nil), for every place, every handle: the statement as given. No condition. -/
import Derived.Test.YthgmfcklipkbiaaTW
import Derived.WalkKit
import Derived.ProofKit
import Derived.OpenShut
import Derived.ShutString
namespace Go.Proofs.Ythgmfcklipkbiaa.treeNone
open Go.ChangeShapes Go.WideShapes Go.ChangeAt Go.RowKit
open Go.ChangeMaps (open_string shut_string)
set_option linter.unusedVariables false
set_option linter.unusedSimpArgs false

theorem own : ownKnob Try.prog.godebug = none := by kernel_rfl

set_option maxRecDepth 100000 in
set_option maxHeartbeats 16000000 in
theorem walk (a0 : Int) (a1 b1 : Int) (w : World) (w0 : (Lit.int .i64 a0).wf = true) (w1 : (Lit.int .i64 a1).wf = true) (x1 : (Lit.int .u64 b1).wf = true) :
    Calls Try.prog 6 #[.int .i64 a0, .agg #[.int .i64 a1, .int .u64 b1]] w fun e w' => e = .returned (.bool true) ∧ Below w.heap.size w w' := by
  have k0 := fun W => trem_nil (a1, b1.toNat) W
  have k1 := fun W => tat_nil a0 W
  have k2 := fun W => index_nil (a1, b1.toNat) W
  have k3 := fun W => tins_nil a0 (a1, b1.toNat) W
  have k6 := fun W => len_nil W
  have k9 := fun W => deep_nil W
  have k7 := fun W => all_nil W
  have k8 := fun W => works_any W
  have hb0 : ((b1.toNat : Nat) : Int) = b1 := by have := wf_u64 x1; omega
  simp only [hb0] at k0 k2 k3
  have q1 := fun W => eqlH 0 0 0 0 W
  simp only [beq_self_eq_true, Bool.and_self] at q1
  go_enter Try.func6, Try.ntmps6
  go_upto_region 3 with (go_at_call 11; refine (k0 _).mono ?_; rintro e w1 ⟨rfl, hb1⟩)
  have za1 : w1.heap[w.heap.size]? = some (.cells #[.int .i64 a1, .int .u64 b1] 34 (0, 0)) := (hb1.block _ (by simp)).trans (heap_alloc_new w _)
  have hw1 : Below w.heap.size w w1 := ((Below.refl _ w).alloc (Nat.le_refl _) _).trans (hb1.mono (by simp))
  clear k0 hb1
  go_upto_region 4 with (go_at_call 15; refine (k1 _).mono ?_; rintro e w3 ⟨rfl, hb3⟩)
  have za4 := heap_al ((hb3.block _ (heap_lt za1)).trans za1) (.cells #[.int .i64 0, .int .u64 0] 34)
  have zc4 := heap_alloc_new w3 (.cells #[.int .i64 0, .int .u64 0] 34)
  have hw3 : Below w.heap.size w w3 := hw1.trans (hb3.mono hw1.size)
  have hb4 : Below w.heap.size w (w3.alloc (.cells #[.int .i64 0, .int .u64 0] 34)) := hw3.alloc hw3.size _
  clear k1 za1 hw1 hb3 hw3
  generalize w3.alloc (.cells #[.int .i64 0, .int .u64 0] 34) = w4 at za4 zc4 hb4 ⊢
  generalize w3.heap.size = zc at zc4 ⊢
  have x0' := cell_of za4 0
  have x1' := cell_of za4 1
  simp at x0' x1'
  go_upto_region 5 with (go_at_call 16; refine (k2 _).mono ?_; rintro e w5 ⟨rfl, hb5⟩)
  have za6 := (hb5.block _ (heap_lt za4)).trans za4
  have zc6 := (hb5.block _ (heap_lt zc4)).trans zc4
  have hw5 : Below w.heap.size w w5 := hb4.trans (hb5.mono hb4.size)
  clear k2 za4 zc4 hb4 hb5 x0' x1'
  have x0' := cell_of za6 0
  have x1' := cell_of za6 1
  simp at x0' x1'
  go_wp2_with (first
    | (go_at_call 13; go_loud (refine (k3 _).mono ?_; rintro e w7 ⟨rfl, hb7⟩; have zc7 := (hb7.block _ (heap_lt zc6)).trans zc6; have t0 := cell_of zc7 0; have t1 := cell_of zc7 1; simp at t0 t1))
    | (go_at_call 21; refine (k6 _).mono ?_; rintro e w' ⟨rfl, hw⟩; rw [hw]; clear hw)
    | (go_at_call 19; refine (k9 _).mono ?_; rintro e w' ⟨rfl, hw⟩; rw [hw]; clear hw)
    | (go_at_call 22; refine (k7 _).mono ?_; rintro e w' ⟨rfl, hw⟩; rw [hw]; clear hw)
    | (go_at_call 8; refine (k8 _).mono ?_; rintro e w10 ⟨rfl, hb10⟩))
  all_goals go_returns
  have h7 := hw5.trans (hb7.mono hw5.size)
  exact ⟨rfl, h7.trans (hb10.mono h7.size)⟩

theorem readable : ∀ t ∈ Try.f6.params.toList, Try.prog.readableRec t = true ∧ t < Try.prog.types.size := by
  rw [Try.params6]
  intro t ht
  simp at ht
  rcases ht with rfl | rfl
  all_goals exact ⟨by kernel_rfl, of_decide_eq_true (by kernel_rfl)⟩
set_option maxRecDepth 100000 in
theorem lifted (os : Os) (started : os.Started) (H : Type) (enc : TypeId × Value → H) :
    ReturnsInHanded {} Try.checked os 6 .any (Rows.treeNoneSpec.pre6 enc Try.prog Try.f6 Rows.treeNoneRow.domain false) (Rows.treeNoneSpec.post enc Try.prog Try.f6 false true false false) := by
  refine returnsInHanded_of_change (C := Try.checked) own started (by kernel_rfl) Try.func6
    (ChangeSpec.witness6 (enc := enc) (C := Try.checked) false ⟨#[], #[.int .i64 0, .agg #[.int .i64 0, .int .u64 0]], []⟩ 8 (by kernel_rfl) (by kernel_rfl) (by kernel_rfl) (by kernel_rfl)) ?_
  intro W base args ds gs before hval0 hW hcnd _
  have hval : ∀ (j : Nat) t v, Try.f6.params[j]? = some t → args[j]? = some v → Value.okWide Try.prog W .any base t v := hval0
  have hW' := hW
  obtain ⟨p, q, hA0, hV, rfl, hfz, hnd⟩ := hW
  have hA : DataW.TrodAll enc Try.prog W 0 (fun _ => true) true Try.f6.params.toList args.toList ds p := hA0
  rw [Try.params6] at hA hval
  obtain ⟨v0, vs0, d0, ds0, p0, q0, hargs, rfl, rfl, h0, r0⟩ := trodAll_cons hA
  obtain ⟨v1, vs1, d1, ds1, p1, q1, rfl, rfl, rfl, h1, r1⟩ := trodAll_cons r0
  obtain ⟨rfl, rfl, rfl⟩ := trodAll_nil r1
  obtain rfl : args = #[v0, v1] := by cases args; simp_all
  obtain ⟨rfl, rfl⟩ := trodVars_none hV
  obtain ⟨a0, rfl, rfl, rfl, w0⟩ := open_int Try.underlying3 (hval 0 3 v0 rfl rfl) h0
  obtain ⟨c1, e1, y1, z1, m1, rfl, rfl, rfl, hy1, hz1⟩ := Joins.open_agg2 Try.underlying34 (by kernel_rfl) (by kernel_rfl) (hval 1 34 v1 rfl rfl) h1
  obtain ⟨a1, f1, rfl, w1⟩ := DataW.trod_int Try.underlying3 hy1
  obtain ⟨b1, g1, rfl, x1⟩ := DataW.trod_int Try.underlying32 hz1
  simp at f1 g1
  subst f1 g1
  clear hA0 hval0
  refine (walk a0 a1 b1 W w0 w1 x1).mono fun e W' ⟨he, hg⟩ => ?_
  subst he
  exact ⟨_, rfl, post_bel readable hW' rfl (fun _ _ _ => (trodAll_cons_mk (shut_bool Try.underlying4 _) trodAll_mk0)) rfl (fun _ => rfl)
    hg (ok_one (by kernel_rfl) rfl (okWide_bool_mk Try.underlying4 _))⟩

theorem over : Rows.treeNoneRow.holds Try.pinned (OpenSpec.ofChange Rows.treeNoneSpec) :=
  OpenClaim.holds_of_wide 6 Try.f6 rfl rfl rfl rfl rfl rfl rfl ⟨rfl, rfl, rfl, rfl, rfl⟩ rfl rfl rfl rfl rfl (by kernel_rfl) Try.func6 (by kernel_rfl)
    (of_decide_eq_true (by kernel_rfl)) (by unfold Func.isWrapper; first | (rw [if_pos (by decide +kernel)]; kernel_rfl) | (rw [if_neg (by decide +kernel)]; exact ⟨rfl, rfl⟩))
    (fun os started H enc _ => lifted os started H enc)

theorem proved : Rows.TreeNoneSaid :=
  over
end Go.Proofs.Ythgmfcklipkbiaa.treeNone
namespace Go.Proofs.Ythgmfcklipkbiaa
theorem treeNone_holds : Rows.TreeNoneSaid :=
  treeNone.proved
#print axioms treeNone_holds
end Go.Proofs.Ythgmfcklipkbiaa
