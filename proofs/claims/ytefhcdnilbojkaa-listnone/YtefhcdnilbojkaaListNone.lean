/- ListNone: what no list answers (the rules: nil), for every handle, at either end: the statement as given. No condition. -/
import Derived.Test.YtefhcdnilbojkaaLX
import Derived.WalkKit
import Derived.ProofKit
import Derived.OpenShut
import Derived.ShutString
namespace Go.Proofs.Ytefhcdnilbojkaa.listNone
open Go.ChangeShapes Go.WideShapes Go.ChangeAt Go.RowKit
open Go.ChangeMaps (open_string shut_string)
set_option linter.unusedVariables false
set_option linter.unusedSimpArgs false

theorem own : ownKnob Try.prog.godebug = none := by kernel_rfl

set_option maxRecDepth 100000 in
set_option maxHeartbeats 16000000 in
theorem walk (a0 b0 : Int) (a1 : Bool) (w : World) (w0 : (Lit.int .i64 a0).wf = true) (x0 : (Lit.int .u64 b0).wf = true)  :
    Calls Try.prog 6 #[.agg #[.int .i64 a0, .int .u64 b0], .bool a1] w fun e w' => e = .returned (.bool true) ∧ Below w.heap.size w w' := by
  have k0 := fun W => pop_nil a1 W
  have k1 := fun W => peek_nil a1 W
  have k2 := fun W => next_nil (a0, b0.toNat) W
  have k3 := fun W => push_nil (a0, b0.toNat) a1 W
  have k4 := fun W => remove_nil (a0, b0.toNat) W
  have k5 := fun W => has_nil (a0, b0.toNat) W
  have k6 := fun W => len_nil W
  have k7 := fun W => all_nil W
  have k8 := fun W => works_any W
  have hb0 : ((b0.toNat : Nat) : Int) = b0 := by have := wf_u64 x0; omega
  simp only [hb0] at k2 k3 k4 k5
  have q1 := fun W => eqlH 0 0 0 0 W
  simp only [beq_self_eq_true, Bool.and_self] at q1
  go_enter Try.func6, Try.ntmps6
  go_upto_region 3 with (go_at_call 21; refine (k0 _).mono ?_; rintro e w1 ⟨rfl, hb1⟩)
  have za1 : w1.heap[w.heap.size]? = some (.cells #[.int .i64 a0, .int .u64 b0] 32 (0, 0)) := (hb1.block _ (by simp)).trans (heap_alloc_new w _)
  have za2 := heap_al za1 (.cells #[.int .i64 0, .int .u64 0] 32)
  have zb2 := heap_alloc_new w1 (.cells #[.int .i64 0, .int .u64 0] 32)
  have hw1 : Below w.heap.size w w1 := ((Below.refl _ w).alloc (Nat.le_refl _) _).trans (hb1.mono (by simp))
  have hb2 : Below w.heap.size w (w1.alloc (.cells #[.int .i64 0, .int .u64 0] 32)) := hw1.alloc hw1.size _
  clear k0 za1 hw1 hb1
  generalize w1.alloc (.cells #[.int .i64 0, .int .u64 0] 32) = w2 at za2 zb2 hb2 ⊢
  generalize w1.heap.size = zb at zb2 ⊢
  go_upto_region 4 with (go_at_call 16; refine (k1 _).mono ?_; rintro e w3 ⟨rfl, hb3⟩)
  have za4 := heap_al ((hb3.block _ (heap_lt za2)).trans za2) (.cells #[.int .i64 0, .int .u64 0] 32)
  have zb4 := heap_al ((hb3.block _ (heap_lt zb2)).trans zb2) (.cells #[.int .i64 0, .int .u64 0] 32)
  have zc4 := heap_alloc_new w3 (.cells #[.int .i64 0, .int .u64 0] 32)
  have hw3 : Below w.heap.size w w3 := hb2.trans (hb3.mono hb2.size)
  have hb4 : Below w.heap.size w (w3.alloc (.cells #[.int .i64 0, .int .u64 0] 32)) := hw3.alloc hw3.size _
  clear k1 za2 zb2 hb2 hb3 hw3
  generalize w3.alloc (.cells #[.int .i64 0, .int .u64 0] 32) = w4 at za4 zb4 zc4 hb4 ⊢
  generalize w3.heap.size = zc at zc4 ⊢
  have x0' := cell_of za4 0
  have x1' := cell_of za4 1
  simp at x0' x1'
  go_upto_region 5 with (go_at_call 18; refine (k2 _).mono ?_; rintro e w5 ⟨rfl, hb5⟩)
  have za6 := heap_al ((hb5.block _ (heap_lt za4)).trans za4) (.cells #[.int .i64 0, .int .u64 0] 32)
  have zb6 := heap_al ((hb5.block _ (heap_lt zb4)).trans zb4) (.cells #[.int .i64 0, .int .u64 0] 32)
  have zc6 := heap_al ((hb5.block _ (heap_lt zc4)).trans zc4) (.cells #[.int .i64 0, .int .u64 0] 32)
  have zd6 := heap_alloc_new w5 (.cells #[.int .i64 0, .int .u64 0] 32)
  have hw5 : Below w.heap.size w w5 := hb4.trans (hb5.mono hb4.size)
  have hb6 : Below w.heap.size w (w5.alloc (.cells #[.int .i64 0, .int .u64 0] 32)) := hw5.alloc hw5.size _
  clear k2 za4 zb4 zc4 hb4 hb5 hw5 x0' x1'
  generalize w5.alloc (.cells #[.int .i64 0, .int .u64 0] 32) = w6 at za6 zb6 zc6 zd6 hb6 ⊢
  generalize w5.heap.size = zd at zd6 ⊢
  have x0' := cell_of za6 0
  have x1' := cell_of za6 1
  simp at x0' x1'
  go_wp2_with (first
    | (go_at_call 19; go_loud (refine (k3 _).mono ?_; rintro e w7 ⟨rfl, hb7⟩; have za7 := (hb7.block _ (heap_lt za6)).trans za6; have zb7 := (hb7.block _ (heap_lt zb6)).trans zb6; have zc7 := (hb7.block _ (heap_lt zc6)).trans zc6; have zd7 := (hb7.block _ (heap_lt zd6)).trans zd6; have u0 := cell_of za7 0; have u1 := cell_of za7 1; have y0 := cell_of zb7 0; have y1 := cell_of zb7 1; have t0 := cell_of zc7 0; have t1 := cell_of zc7 1; have s0 := cell_of zd7 0; have s1 := cell_of zd7 1; simp at u0 u1 y0 y1 t0 t1 s0 s1))
    | (go_at_call 23; go_loud (refine (k4 _).mono ?_; rintro e w8 ⟨rfl, hb8⟩; have za8 := (hb8.block _ (heap_lt za7)).trans za7; have v0 := cell_of za8 0; have v1 := cell_of za8 1; simp at v0 v1))
    | (go_at_call 14; go_loud (refine (k5 _).mono ?_; rintro e w9 ⟨rfl, hb9⟩))
    | (go_at_call 13; refine (k6 _).mono ?_; rintro e w' ⟨rfl, hw⟩; rw [hw]; clear hw)
    | (go_at_call 12; refine (k7 _).mono ?_; rintro e w' ⟨rfl, hw⟩; rw [hw]; clear hw)
    | (go_at_call 8; refine (k8 _).mono ?_; rintro e w10 ⟨rfl, hb10⟩))
  all_goals go_returns
  have h7 := hb6.trans (hb7.mono hb6.size)
  have h8 := h7.trans (hb8.mono h7.size)
  have h9 := h8.trans (hb9.mono h8.size)
  exact ⟨rfl, h9.trans (hb10.mono h9.size)⟩

theorem readable : ∀ t ∈ Try.f6.params.toList, Try.prog.readableRec t = true ∧ t < Try.prog.types.size := by
  rw [Try.params6]
  intro t ht
  simp at ht
  rcases ht with rfl | rfl
  all_goals exact ⟨by kernel_rfl, of_decide_eq_true (by kernel_rfl)⟩
set_option maxRecDepth 100000 in
theorem lifted (os : Os) (started : os.Started) (H : Type) (enc : TypeId × Value → H) :
    ReturnsInHanded {} Try.checked os 6 .any (Rows.listNoneSpec.pre6 enc Try.prog Try.f6 Rows.listNoneRow.domain false) (Rows.listNoneSpec.post enc Try.prog Try.f6 false true false false) := by
  refine returnsInHanded_of_change (C := Try.checked) own started (by kernel_rfl) Try.func6
    (ChangeSpec.witness6 (enc := enc) (C := Try.checked) false ⟨#[], #[.agg #[.int .i64 0, .int .u64 0], .bool false], []⟩ 8 (by kernel_rfl) (by kernel_rfl) (by kernel_rfl) (by kernel_rfl)) ?_
  intro W base args ds gs before hval0 hW hcnd _
  have hval : ∀ (j : Nat) t v, Try.f6.params[j]? = some t → args[j]? = some v → Value.okWide Try.prog W .any base t v := hval0
  have hW' := hW
  obtain ⟨p, q, hA0, hV, rfl, hfz, hnd⟩ := hW
  have hA : DataW.TrodAll enc Try.prog W 0 (fun _ => true) true Try.f6.params.toList args.toList ds p := hA0
  rw [Try.params6] at hA hval
  obtain ⟨v0, vs0, d0, ds0, p0, q0, hargs, rfl, rfl, h0, r0⟩ := trodAll_cons hA
  obtain ⟨v1, vs1, d1, ds1, p1, q1, rfl, rfl, rfl, h1, r1⟩ := trodAll_cons r0
  obtain ⟨rfl, rfl, rfl⟩ := trodAll_nil r1
  obtain rfl : args = #[v0, v1] := by cases args; simp_all
  obtain ⟨rfl, rfl⟩ := trodVars_none hV
  obtain ⟨c0, e0, y0, z0, m0, rfl, rfl, rfl, hy0, hz0⟩ := Joins.open_agg2 Try.underlying32 (by kernel_rfl) (by kernel_rfl) (hval 0 32 v0 rfl rfl) h0
  obtain ⟨a0, f0, rfl, w0⟩ := DataW.trod_int Try.underlying3 hy0
  obtain ⟨b0, g0, rfl, x0⟩ := DataW.trod_int Try.underlying30 hz0
  simp at f0 g0
  subst f0 g0
  obtain ⟨a1, rfl, rfl, rfl⟩ := open_bool Try.underlying4 (hval 1 4 v1 rfl rfl) h1
  clear hA0 hval0
  refine (walk a0 b0 a1 W w0 x0 ).mono fun e W' ⟨he, hg⟩ => ?_
  subst he
  exact ⟨_, rfl, post_bel readable hW' rfl (fun _ _ _ => (trodAll_cons_mk (shut_bool Try.underlying4 _) trodAll_mk0)) rfl (fun _ => rfl)
    hg (ok_one (by kernel_rfl) rfl (okWide_bool_mk Try.underlying4 _))⟩

theorem over : Rows.listNoneRow.holds Try.pinned (OpenSpec.ofChange Rows.listNoneSpec) :=
  OpenClaim.holds_of_wide 6 Try.f6 rfl rfl rfl rfl rfl rfl rfl ⟨rfl, rfl, rfl, rfl, rfl⟩ rfl rfl rfl rfl rfl (by kernel_rfl) Try.func6 (by kernel_rfl)
    (of_decide_eq_true (by kernel_rfl)) (by unfold Func.isWrapper; first | (rw [if_pos (by decide +kernel)]; kernel_rfl) | (rw [if_neg (by decide +kernel)]; exact ⟨rfl, rfl⟩))
    (fun os started H enc _ => lifted os started H enc)

theorem proved : Rows.ListNoneSaid :=
  over
end Go.Proofs.Ytefhcdnilbojkaa.listNone
namespace Go.Proofs.Ytefhcdnilbojkaa
theorem listNone_holds : Rows.ListNoneSaid :=
  listNone.proved
#print axioms listNone_holds
end Go.Proofs.Ytefhcdnilbojkaa
