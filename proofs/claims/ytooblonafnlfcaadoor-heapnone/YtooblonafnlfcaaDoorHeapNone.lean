/- HeapNone: what no heap answers (the rules: nil), for every handle and every place: the statement as given, its table of classes tied to the text of the program. No condition beside those of the card itself. -/
import Derived.Test.YtooblonafnlfcaaDoorPS
import Derived.Test.YtooblonafnlfcaaDoorCards
import Derived.Test.YtooblonafnlfcaaDoorTie
import Derived.WalkKit
import Derived.ProofKit
import Derived.OpenShut
import Derived.ShutString
import Derived.SevenTiedAt
namespace Go.Proofs.YtooblonafnlfcaaDoor.heapNone
open Go.ChangeShapes Go.WideShapes Go.ChangeAt Go.RowKit
set_option linter.unusedVariables false
set_option linter.unusedSimpArgs false
theorem own : ownKnob Tryd.prog.godebug = none := by kernel_rfl
set_option maxRecDepth 100000 in
set_option maxHeartbeats 16000000 in
theorem walk (a0 b0 : Int) (a1 : Int) (w : World) (hT : Tab w) (h0 : 0 < w.heap.size) (w0 : (Lit.int .i64 a0).wf = true) (x0 : (Lit.int .u64 b0).wf = true) (w1 : (Lit.int .i64 a1).wf = true) :
    Calls Tryd.prog 6 #[.agg #[.int .i64 a0, .int .u64 b0], .int .i64 a1] w fun e w' => e = .returned (.bool true) ∧ Below w.heap.size w w' := by
  have hi := wf_i64 w1
  have kM := fun W => hmake_nil 1 8 W
  have kH := fun W => hold_nil a0 b0 W
  have kD := fun W => hdrop_nil a0 b0 W
  have kK := fun W => kind_nil a0 b0 W
  have kC := fun W => count_nil a0 b0 W
  have kR := fun W => hread_nil a0 b0 a1 1 W
  have kF := fun W => free_nil a0 b0 W
  have kW := fun W => hwrite_nil a0 b0 a1 ⟨#[97]⟩ W
  have kL := fun W => hlive_nil W
  have kU := fun W => hused_nil W
  have kO := fun W => hroom_nil W
  have hz := heap_alloc_new w (.cells #[.int .i64 a0, .int .u64 b0] 34)
  have hbl := (Below.refl w.heap.size w).alloc (Nat.le_refl _) (.cells #[.int .i64 a0, .int .u64 b0] 34)
  go_enter Tryd.func6, Tryd.ntmps6
  go_upto_region 3 with (go_at_call 13; refine (kM _).mono ?_; unfold H.hdV; rintro e w2 ⟨rfl, hb⟩)
  replace hz := heap_al ((hb.block _ (heap_lt hz)).trans hz) (.cells #[.int .i64 0, .int .u64 0] 34)
  replace hbl : Below w.heap.size w (w2.alloc (.cells #[.int .i64 0, .int .u64 0] 34)) := (hbl.trans (hb.mono hbl.size)).alloc (Nat.le_trans hbl.size hb.size) _
  clear hb
  generalize w2.alloc (.cells #[.int .i64 0, .int .u64 0] 34) = w3 at hz hbl ⊢
  have c0 := (cell_of hz 0).trans (show _ = some (Value.int .i64 a0) from rfl)
  have c1 := (cell_of hz 1).trans (show _ = some (Value.int .u64 b0) from rfl)
  go_upto_region 8 with (first
    | (go_at_call 23; refine (kH _).mono ?_; rintro e v ⟨rfl, hb⟩; replace hz := (hb.block _ (heap_lt hz)).trans hz; replace hbl := hbl.trans (hb.mono hbl.size); have c0 := (cell_of hz 0).trans (show _ = some (Value.int .i64 a0) from rfl); have c1 := (cell_of hz 1).trans (show _ = some (Value.int .u64 b0) from rfl))
    | (go_at_call 24; refine (kD _).mono ?_; rintro e v ⟨rfl, hb⟩; replace hz := (hb.block _ (heap_lt hz)).trans hz; replace hbl := hbl.trans (hb.mono hbl.size); have c0 := (cell_of hz 0).trans (show _ = some (Value.int .i64 a0) from rfl); have c1 := (cell_of hz 1).trans (show _ = some (Value.int .u64 b0) from rfl))
    | (go_at_call 17; refine (kK _).mono ?_; rintro e v ⟨rfl, hb⟩; replace hz := (hb.block _ (heap_lt hz)).trans hz; replace hbl := hbl.trans (hb.mono hbl.size); have c0 := (cell_of hz 0).trans (show _ = some (Value.int .i64 a0) from rfl); have c1 := (cell_of hz 1).trans (show _ = some (Value.int .u64 b0) from rfl))
    | (go_at_call 16; refine (kC _).mono ?_; rintro e v ⟨rfl, hb⟩; replace hz := (hb.block _ (heap_lt hz)).trans hz; replace hbl := hbl.trans (hb.mono hbl.size); have c0 := (cell_of hz 0).trans (show _ = some (Value.int .i64 a0) from rfl); have c1 := (cell_of hz 1).trans (show _ = some (Value.int .u64 b0) from rfl))
    | (go_at_call 26; refine (kR _).mono ?_; rintro e v ⟨rfl, hb⟩; replace hz := (hb.block _ (heap_lt hz)).trans hz; replace hbl := hbl.trans (hb.mono hbl.size); have c0 := (cell_of hz 0).trans (show _ = some (Value.int .i64 a0) from rfl); have c1 := (cell_of hz 1).trans (show _ = some (Value.int .u64 b0) from rfl)))
  go_wp2_with (first
    | (go_at_call 25; refine (kF _).mono ?_; rintro e v ⟨rfl, hb⟩; replace hz := (hb.block _ (heap_lt hz)).trans hz; replace hbl := hbl.trans (hb.mono hbl.size); have c0 := (cell_of hz 0).trans (show _ = some (Value.int .i64 a0) from rfl); have c1 := (cell_of hz 1).trans (show _ = some (Value.int .u64 b0) from rfl))
    | (go_at_call 27; refine (kW _).mono ?_; rintro e v ⟨rfl, hb⟩; replace hz := (hb.block _ (heap_lt hz)).trans hz; replace hbl := hbl.trans (hb.mono hbl.size); have c0 := (cell_of hz 0).trans (show _ = some (Value.int .i64 a0) from rfl); have c1 := (cell_of hz 1).trans (show _ = some (Value.int .u64 b0) from rfl))
    | (go_at_call 22; refine (kL _).mono ?_; rintro e w' ⟨rfl, hw⟩; rw [hw]; clear hw)
    | (go_at_call 19; refine (kU _).mono ?_; rintro e w' ⟨rfl, hw⟩; rw [hw]; clear hw)
    | (go_at_call 21; refine (kO _).mono ?_; rintro e w' ⟨rfl, hw⟩; rw [hw]; clear hw)
    | (go_at_call 9; refine (hworks_any _ (hT.gr h0 hbl) (by have := hbl.size; omega)).mono ?_; rintro e v ⟨rfl, hb⟩; replace hbl := hbl.trans (hb.mono hbl.size)))
  all_goals go_returns
  all_goals exact ⟨rfl, hbl⟩

theorem readable : ∀ t ∈ Tryd.f6.params.toList, Tryd.prog.readableRec t = true ∧ t < Tryd.prog.types.size := by
  rw [Tryd.params6]
  intro t ht
  simp at ht
  rcases ht with rfl | rfl
  all_goals exact ⟨by kernel_rfl, of_decide_eq_true (by kernel_rfl)⟩
set_option maxRecDepth 100000 in
theorem lifted (os : Os) (started : os.Started) (H : Type) (enc : TypeId × Value → H) :
    ReturnsInHanded {} Tryd.checked os 6 .any (fun w args => (Rows.heapNoneSpec.pre enc Tryd.prog Tryd.f6 [] false w args ∧ laidMetH Tryd.prog laidL w) ∧ sizedMet enc Tryd.prog Tryd.f6 (OpenSpec.ofChange Rows.heapNoneSpec) false w args) (Rows.heapNoneSpec.post enc Tryd.prog Tryd.f6 false true false false) := by
  refine returnsInHanded_of_change_and (C := Tryd.checked) (X := fun w _ => laidMetH Tryd.prog laidL w) (fun _ _ _ hh h => h.of_heap hh) own started (by kernel_rfl) Tryd.func6
    (ChangeSpec.witness_shaped (enc := enc) (C := Tryd.checked) (os := os) (X := fun w _ => laidMetH Tryd.prog laidL w) false (World.doorLaid Tryd.prog 400 os) #[.agg #[.int .i64 0, .int .u64 0], .int .i64 0] 8 rfl (World.shaped_of_RefB (by kernel_rfl) (by kernel_rfl)) (by kernel_rfl) (by kernel_rfl) (by kernel_rfl) (door_met os _)) ?_
  intro W base args ds gs before hval0 hW _ _ hL _
  have hval : ∀ (j : Nat) t v, Tryd.f6.params[j]? = some t → args[j]? = some v → Value.okWide Tryd.prog W .any base t v := hval0
  have hW' := hW
  obtain ⟨p, q, hA0, hV, rfl, hfz, hnd⟩ := hW
  have hA : DataW.TrodAll enc Tryd.prog W 0 (fun _ => true) true Tryd.f6.params.toList args.toList ds p := hA0
  rw [Tryd.params6] at hA hval
  obtain ⟨v0, vs0, d0, ds0, p0, q0, hargs, rfl, rfl, h0, r0⟩ := trodAll_cons hA
  obtain ⟨v1, vs1, d1, ds1, p1, q1, rfl, rfl, rfl, h1, r1⟩ := trodAll_cons r0
  obtain ⟨rfl, rfl, rfl⟩ := trodAll_nil r1
  obtain rfl : args = #[v0, v1] := by cases args; simp_all
  obtain ⟨rfl, rfl⟩ := trodVars_none hV
  obtain ⟨c0, e0, y0, z0, m0, rfl, rfl, rfl, hy0, hz0⟩ := Joins.open_agg2 Tryd.underlying34 (by kernel_rfl) (by kernel_rfl) (hval 0 34 v0 rfl rfl) h0
  obtain ⟨a0, f0, rfl, w0⟩ := DataW.trod_int Tryd.underlying3 hy0
  obtain ⟨b0, g0, rfl, x0⟩ := DataW.trod_int Tryd.underlying32 hz0
  simp at f0 g0
  subst f0 g0
  obtain ⟨a1, rfl, rfl, rfl, w1⟩ := open_int Tryd.underlying3 (hval 1 3 v1 rfl rfl) h1
  clear hA0 hval0
  obtain ⟨hTab, hpos⟩ := tab_of hL
  refine (walk a0 b0 a1 W hTab hpos w0 x0 w1).mono fun e W' ⟨he, hg⟩ => ?_
  subst he
  exact ⟨_, rfl, post_bel readable hW' rfl (fun _ _ _ => (trodAll_cons_mk (shut_bool Tryd.underlying4 _) trodAll_mk0)) rfl (fun _ => rfl)
    hg (ok_one (by kernel_rfl) rfl (okWide_bool_mk Tryd.underlying4 _))⟩

theorem over : Rows.HeapNoneSaid :=
  OpenClaim.holds_of_wide 6 Tryd.f6 rfl rfl rfl rfl rfl rfl rfl ⟨rfl, rfl, rfl, rfl, rfl⟩ rfl rfl rfl rfl rfl (by kernel_rfl) Tryd.func6 (by kernel_rfl)
    (of_decide_eq_true (by kernel_rfl)) (by unfold Func.isWrapper; first | (rw [if_pos (by decide +kernel)]; kernel_rfl) | (rw [if_neg (by decide +kernel)]; exact ⟨rfl, rfl⟩))
    (fun os started H enc _ => lifted os started H enc)
end Go.Proofs.YtooblonafnlfcaaDoor.heapNone
namespace Go.Proofs.YtooblonafnlfcaaDoor
theorem heapNone_holds : Rows.HeapNoneCardSaid :=
  Claim7.holds_tied_plain_at .later [] [.data] true (true, "b767f1769450228dc74670ef9fc0548c4ed2a596c62c776f9a54ab77b3249b2a") false
    heapNone.over (fun _ h => by cases h) (by kernel_rfl) (fun _ h => by cases h) heapNone_row_tie rfl ⟨rfl, rfl⟩ (by kernel_rfl) rfl
    (fun f fn hf hfn => by
      obtain rfl : f = 6 := Option.some.inj ((show Tryd.prog.funcNamed "warden/wardenlaw14.HeapNone" = some 6 by kernel_rfl).symm.trans hf) |>.symm
      obtain rfl : fn = Tryd.f6 := (Option.some.inj (Tryd.func6.symm.trans hfn)).symm
      exact ⟨by kernel_rfl, fun j t ht => by
        rw [Tryd.params6] at ht
        have hm : t ∈ [34, 3] := by simpa using Array.mem_of_getElem? ht
        have hall : ([34, 3].all fun u => !Tryd.prog.wantsStandIn u) = true := by kernel_rfl
        exact (show Tryd.prog.wantsStandIn t = false by simpa using List.all_eq_true.1 hall t hm)⟩)
    (by kernel_rfl)
#print axioms heapNone_holds
end Go.Proofs.YtooblonafnlfcaaDoor
