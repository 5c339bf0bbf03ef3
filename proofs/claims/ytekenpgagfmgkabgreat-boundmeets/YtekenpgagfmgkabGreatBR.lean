/- Towards the statements of package bound (layer 5): the document's examples. -/
import Derived.Test.YtekenpgagfmgkabGreatBQ
import Derived.KernelRfl
namespace Go.Proofs.YtekenpgagfmgkabGreat
open Go.ChangeShapes Go.WideShapes Go.ChangeAt Go.RowKit
open Tn (iv)
set_option linter.unusedVariables false
set_option maxRecDepth 20000

set_option maxHeartbeats 4000000 in
theorem works_any (w : World) : Calls Tryz.prog 15 #[] w fun e w' => e = .returned (.bool true) ∧ Gr w w' := by
  go_enter Tryz.func15, Tryz.ntmps15
  go_upto_region 2 with (first | (go_at_call 14; refine (w_const5 _).mono ?_; rintro e w1 ⟨rfl, hg1⟩))
  have H5 : Hid (AtA (w1.alloc (.cells #[.int .u64 5, .int .u64 0, .int .u64 5, .int .u64 5, .int .i64 5, .int .i64 5, .int .u64 5, .int .u64 5, .int .i64 5, .int .i64 5] 33)) w1.heap.size #[.int .u64 5, .int .u64 0, .int .u64 5, .int .u64 5, .int .i64 5, .int .i64 5, .int .u64 5, .int .u64 5, .int .i64 5, .int .i64 5] 33) := AtA.newb _ rfl _ _
  have HG : Hid (Gr w (w1.alloc (.cells #[.int .u64 5, .int .u64 0, .int .u64 5, .int .u64 5, .int .i64 5, .int .i64 5, .int .u64 5, .int .u64 5, .int .i64 5, .int .i64 5] 33))) := hg1.alloc _ _
  revert H5 HG
  generalize (w1.alloc (.cells #[.int .u64 5, .int .u64 0, .int .u64 5, .int .u64 5, .int .i64 5, .int .i64 5, .int .u64 5, .int .u64 5, .int .i64 5, .int .i64 5] 33)) = W1
  generalize w1.heap.size = X5
  intro H5 HG
  clear hg1
  go_upto_region 3 with (first
    | (go_at_call 17; refine (w_any _).mono ?_; rintro e w2 ⟨rfl, hg2⟩)
    | (go_at_call 14; refine (w_const7 _).mono ?_; rintro e w3 ⟨rfl, hg3⟩)
    | (go_at_call 47; refine (w_and _).mono ?_; rintro e w4 ⟨rfl, hg4⟩))
  have H5b : Hid (AtA (w4.alloc (.cells #[.int .u64 0, .int .u64 7, .int .u64 0, .int .u64 7, .int .i64 0, .int .i64 7, .int .u64 0, .int .u64 7, .int .i64 0, .int .i64 7] 33)) X5 #[.int .u64 5, .int .u64 0, .int .u64 5, .int .u64 5, .int .i64 5, .int .i64 5, .int .u64 5, .int .u64 5, .int .i64 5, .int .i64 5] 33) := (((H5.out.gr hg2).gr hg3).gr hg4).alloc _
  have HXb : Hid (AtA (w4.alloc (.cells #[.int .u64 0, .int .u64 7, .int .u64 0, .int .u64 7, .int .i64 0, .int .i64 7, .int .u64 0, .int .u64 7, .int .i64 0, .int .i64 7] 33)) w4.heap.size #[.int .u64 0, .int .u64 7, .int .u64 0, .int .u64 7, .int .i64 0, .int .i64 7, .int .u64 0, .int .u64 7, .int .i64 0, .int .i64 7] 33) := AtA.newb _ rfl _ _
  have HGb : Hid (Gr w (w4.alloc (.cells #[.int .u64 0, .int .u64 7, .int .u64 0, .int .u64 7, .int .i64 0, .int .i64 7, .int .u64 0, .int .u64 7, .int .i64 0, .int .i64 7] 33))) := (((HG.out.trans hg2).trans hg3).trans hg4).alloc _ _
  clear H5 HG hg2 hg3 hg4
  revert H5b HXb HGb
  generalize (w4.alloc (.cells #[.int .u64 0, .int .u64 7, .int .u64 0, .int .u64 7, .int .i64 0, .int .i64 7, .int .u64 0, .int .u64 7, .int .i64 0, .int .i64 7] 33)) = W4
  generalize w4.heap.size = XX
  intro H5 HX HG
  have c0 := (H5.out).cell 0
  have c1 := (H5.out).cell 1
  have c2 := (H5.out).cell 2
  have c3 := (H5.out).cell 3
  have c4 := (H5.out).cell 4
  have c5 := (H5.out).cell 5
  have c6 := (H5.out).cell 6
  have c7 := (H5.out).cell 7
  have c8 := (H5.out).cell 8
  have c9 := (H5.out).cell 9
  simp only [List.getElem?_toArray, List.getElem?_cons_zero, List.getElem?_cons_succ] at c0 c1 c2 c3 c4 c5 c6 c7 c8 c9
  go_upto_region 4 with (first
    | (go_at_call 16; refine (w_one _).mono ?_; rintro e w5 ⟨rfl, hg⟩; have H5c : Hid (AtA w5 X5 _ 33) := H5.out.gr hg; have HXc : Hid (AtA w5 XX _ 33) := HX.out.gr hg; have HGc : Hid (Gr w w5) := HG.out.trans hg; clear hg H5 HX HG))
  clear c0 c1 c2 c3 c4 c5 c6 c7 c8 c9
  have c0 := (H5c.out).cell 0
  have c1 := (H5c.out).cell 1
  have c2 := (H5c.out).cell 2
  have c3 := (H5c.out).cell 3
  have c4 := (H5c.out).cell 4
  have c5 := (H5c.out).cell 5
  have c6 := (H5c.out).cell 6
  have c7 := (H5c.out).cell 7
  have c8 := (H5c.out).cell 8
  have c9 := (H5c.out).cell 9
  simp only [List.getElem?_toArray, List.getElem?_cons_zero, List.getElem?_cons_succ] at c0 c1 c2 c3 c4 c5 c6 c7 c8 c9
  go_upto_region 5 with (first
    | (go_at_call 47; refine (w_none _).mono ?_; rintro e w6 ⟨rfl, hg⟩; have H5d : Hid (AtA (w6.alloc (.cells #[.int .u64 0, .int .u64 0, .int .u64 0, .int .u64 0, .int .i64 0, .int .i64 0, .int .u64 0, .int .u64 0, .int .i64 0, .int .i64 0] 33)) X5 _ 33) := (H5c.out.gr hg).alloc _; have HXd : Hid (AtA (w6.alloc (.cells #[.int .u64 0, .int .u64 0, .int .u64 0, .int .u64 0, .int .i64 0, .int .i64 0, .int .u64 0, .int .u64 0, .int .i64 0, .int .i64 0] 33)) XX _ 33) := (HXc.out.gr hg).alloc _; have HGd : Hid (Gr w (w6.alloc (.cells #[.int .u64 0, .int .u64 0, .int .u64 0, .int .u64 0, .int .i64 0, .int .i64 0, .int .u64 0, .int .u64 0, .int .i64 0, .int .i64 0] 33))) := (HGc.out.trans hg).alloc _ _; clear hg H5c HXc HGc))
  clear c0 c1 c2 c3 c4 c5 c6 c7 c8 c9
  revert H5d HXd HGd
  generalize (w6.alloc (.cells #[.int .u64 0, .int .u64 0, .int .u64 0, .int .u64 0, .int .i64 0, .int .i64 0, .int .u64 0, .int .u64 0, .int .i64 0, .int .i64 0] 33)) = W6
  intro H5 HX HG
  have hc : ∀ p : GrBy W6, AtA p.to X5 _ 33 := fun p => H5.out.gr p.gr
  have hx : ∀ p : GrBy W6, AtA p.to XX _ 33 := fun p => HX.out.gr p.gr
  obtain ⟨q0, hq0⟩ : ∃ q : GrBy W6, W6 = q.to := ⟨⟨W6, Gr.refl _⟩, rfl⟩
  have c0 : ∀ p : GrBy W6, p.to.cell? ⟨X5, 0, none⟩ = some (.int .u64 5) := fun p => by have h := (hc p).cell 0; simpa only [List.getElem?_toArray, List.getElem?_cons_zero, List.getElem?_cons_succ] using h
  have x0 : ∀ p : GrBy W6, p.to.cell? ⟨XX, 0, none⟩ = some (.int .u64 0) := fun p => by have h := (hx p).cell 0; simpa only [List.getElem?_toArray, List.getElem?_cons_zero, List.getElem?_cons_succ] using h
  have c1 : ∀ p : GrBy W6, p.to.cell? ⟨X5, 1, none⟩ = some (.int .u64 0) := fun p => by have h := (hc p).cell 1; simpa only [List.getElem?_toArray, List.getElem?_cons_zero, List.getElem?_cons_succ] using h
  have x1 : ∀ p : GrBy W6, p.to.cell? ⟨XX, 1, none⟩ = some (.int .u64 7) := fun p => by have h := (hx p).cell 1; simpa only [List.getElem?_toArray, List.getElem?_cons_zero, List.getElem?_cons_succ] using h
  have c2 : ∀ p : GrBy W6, p.to.cell? ⟨X5, 2, none⟩ = some (.int .u64 5) := fun p => by have h := (hc p).cell 2; simpa only [List.getElem?_toArray, List.getElem?_cons_zero, List.getElem?_cons_succ] using h
  have x2 : ∀ p : GrBy W6, p.to.cell? ⟨XX, 2, none⟩ = some (.int .u64 0) := fun p => by have h := (hx p).cell 2; simpa only [List.getElem?_toArray, List.getElem?_cons_zero, List.getElem?_cons_succ] using h
  have c3 : ∀ p : GrBy W6, p.to.cell? ⟨X5, 3, none⟩ = some (.int .u64 5) := fun p => by have h := (hc p).cell 3; simpa only [List.getElem?_toArray, List.getElem?_cons_zero, List.getElem?_cons_succ] using h
  have x3 : ∀ p : GrBy W6, p.to.cell? ⟨XX, 3, none⟩ = some (.int .u64 7) := fun p => by have h := (hx p).cell 3; simpa only [List.getElem?_toArray, List.getElem?_cons_zero, List.getElem?_cons_succ] using h
  have c4 : ∀ p : GrBy W6, p.to.cell? ⟨X5, 4, none⟩ = some (.int .i64 5) := fun p => by have h := (hc p).cell 4; simpa only [List.getElem?_toArray, List.getElem?_cons_zero, List.getElem?_cons_succ] using h
  have x4 : ∀ p : GrBy W6, p.to.cell? ⟨XX, 4, none⟩ = some (.int .i64 0) := fun p => by have h := (hx p).cell 4; simpa only [List.getElem?_toArray, List.getElem?_cons_zero, List.getElem?_cons_succ] using h
  have c5 : ∀ p : GrBy W6, p.to.cell? ⟨X5, 5, none⟩ = some (.int .i64 5) := fun p => by have h := (hc p).cell 5; simpa only [List.getElem?_toArray, List.getElem?_cons_zero, List.getElem?_cons_succ] using h
  have x5 : ∀ p : GrBy W6, p.to.cell? ⟨XX, 5, none⟩ = some (.int .i64 7) := fun p => by have h := (hx p).cell 5; simpa only [List.getElem?_toArray, List.getElem?_cons_zero, List.getElem?_cons_succ] using h
  have c6 : ∀ p : GrBy W6, p.to.cell? ⟨X5, 6, none⟩ = some (.int .u64 5) := fun p => by have h := (hc p).cell 6; simpa only [List.getElem?_toArray, List.getElem?_cons_zero, List.getElem?_cons_succ] using h
  have x6 : ∀ p : GrBy W6, p.to.cell? ⟨XX, 6, none⟩ = some (.int .u64 0) := fun p => by have h := (hx p).cell 6; simpa only [List.getElem?_toArray, List.getElem?_cons_zero, List.getElem?_cons_succ] using h
  have c7 : ∀ p : GrBy W6, p.to.cell? ⟨X5, 7, none⟩ = some (.int .u64 5) := fun p => by have h := (hc p).cell 7; simpa only [List.getElem?_toArray, List.getElem?_cons_zero, List.getElem?_cons_succ] using h
  have x7 : ∀ p : GrBy W6, p.to.cell? ⟨XX, 7, none⟩ = some (.int .u64 7) := fun p => by have h := (hx p).cell 7; simpa only [List.getElem?_toArray, List.getElem?_cons_zero, List.getElem?_cons_succ] using h
  have c8 : ∀ p : GrBy W6, p.to.cell? ⟨X5, 8, none⟩ = some (.int .i64 5) := fun p => by have h := (hc p).cell 8; simpa only [List.getElem?_toArray, List.getElem?_cons_zero, List.getElem?_cons_succ] using h
  have x8 : ∀ p : GrBy W6, p.to.cell? ⟨XX, 8, none⟩ = some (.int .i64 0) := fun p => by have h := (hx p).cell 8; simpa only [List.getElem?_toArray, List.getElem?_cons_zero, List.getElem?_cons_succ] using h
  have c9 : ∀ p : GrBy W6, p.to.cell? ⟨X5, 9, none⟩ = some (.int .i64 5) := fun p => by have h := (hc p).cell 9; simpa only [List.getElem?_toArray, List.getElem?_cons_zero, List.getElem?_cons_succ] using h
  have x9 : ∀ p : GrBy W6, p.to.cell? ⟨XX, 9, none⟩ = some (.int .i64 7) := fun p => by have h := (hx p).cell 9; simpa only [List.getElem?_toArray, List.getElem?_cons_zero, List.getElem?_cons_succ] using h
  rw [show W6 = q0.to from hq0]
  clear hc hx
  go_wp2_with (first
    | (go_at_call_of 13 (Value.int IntKind.u64 6); refine (w_has6 _).mono ?_; rintro e w' ⟨rfl, hg⟩; obtain ⟨q', rfl⟩ := by_of hg; clear hg)
    | (go_at_call 13; refine (w_has5 _).mono ?_; rintro e w' ⟨rfl, hg⟩; obtain ⟨q', rfl⟩ := by_of hg; clear hg)
    | (go_at_call 17; refine (w_any _).mono ?_; rintro e w' ⟨rfl, hg⟩; obtain ⟨q', rfl⟩ := by_of hg; clear hg)
    | (go_at_call 36; refine (rany _).mono ?_; rintro e w' ⟨rfl, hg⟩; obtain ⟨q', rfl⟩ := by_of hg; clear hg)
    | (go_at_call 26; refine (w_some _).mono ?_; rintro e w' ⟨rfl, hg⟩; obtain ⟨q', rfl⟩ := by_of hg; clear hg))
  go_ret
  exact ⟨by simp, HG.out.trans (GrBy.gr _)⟩
end Go.Proofs.YtekenpgagfmgkabGreat
