/- Towards the statements of package bound (layer 5): BoundNone, walked. -/
import Derived.Test.YtekenpgagfmgkaaGreatBNo
import Derived.Deep.DeepCutAuto
namespace Go.Proofs.YtekenpgagfmgkaaGreat
open Go.ChangeShapes Go.WideShapes Go.ChangeAt Go.RowKit
open Tn (iv)
set_option linter.unusedVariables false
set_option maxRecDepth 20000

set_option maxHeartbeats 16000000 in
theorem none_law (atv atm : BitVec 64) (aul auh asl ash awl awh avl avh : Int) (a1 : Int) (c0 : 0 ≤ a1) (c1 : a1 ≤ 255) (wd : Bool) (n : BitVec 64) (hn : iv n ≤ 255) (w : World) : Calls Tryz.prog 8 #[.agg #[.int .u64 (iv atv), .int .u64 (iv atm), .int .u64 aul, .int .u64 auh, .int .i64 asl, .int .i64 ash, .int .u64 awl, .int .u64 awh, .int .i64 avl, .int .i64 avh], .int .u8 a1, .bool wd, .int .u8 (iv n)] w fun e w' => e = .returned (.bool true) ∧ Gr w w' := by
  have e1 : a1.tmod 13 = a1 % 13 := Int.tmod_eq_emod_of_nonneg c0
  have e2 : IntKind.u8.wrap (a1 % 13) = a1 % 13 := by rw [IntKind.wrap_u8]; omega
  have e3 : IntKind.u64.wrap (iv n) = iv n := wrap_inU (inU_iv n)
  obtain ⟨c, hc⟩ : ∃ c, a1 % 13 = c := ⟨_, rfl⟩
  have hc0 : Hid (0 ≤ c ∧ c ≤ 12) := by
    have : 0 ≤ c ∧ c ≤ 12 := by constructor <;> omega
    exact this
  rw [hc] at e1 e2
  clear hc
  go_enter Tryz.func8, Tryz.ntmps8
  go_upto_region 2 with (first | (go_at_call 30; refine (rnothing _).mono ?_; rintro e w1 ⟨rfl, hg1⟩))
  have HA : Hid (AtA (w1.alloc (.cells #[.int .u64 0, .int .u64 0, .int .u64 1, .int .u64 0, .int .i64 1, .int .i64 0, .int .u64 1, .int .u64 0, .int .i64 1, .int .i64 0] 30)) w.heap.size #[.int .u64 (iv atv), .int .u64 (iv atm), .int .u64 aul, .int .u64 auh, .int .i64 asl, .int .i64 ash, .int .u64 awl, .int .u64 awh, .int .i64 avl, .int .i64 avh] 30) := ((AtA.newb w rfl #[.int .u64 (iv atv), .int .u64 (iv atm), .int .u64 aul, .int .u64 auh, .int .i64 asl, .int .i64 ash, .int .u64 awl, .int .u64 awh, .int .i64 avl, .int .i64 avh] 30).gr hg1).alloc _
  have HN : Hid (AtA (w1.alloc (.cells #[.int .u64 0, .int .u64 0, .int .u64 1, .int .u64 0, .int .i64 1, .int .i64 0, .int .u64 1, .int .u64 0, .int .i64 1, .int .i64 0] 30)) w1.heap.size #[.int .u64 0, .int .u64 0, .int .u64 1, .int .u64 0, .int .i64 1, .int .i64 0, .int .u64 1, .int .u64 0, .int .i64 1, .int .i64 0] 30) := AtA.newb _ rfl _ _
  have HG : Hid (Gr w (w1.alloc (.cells #[.int .u64 0, .int .u64 0, .int .u64 1, .int .u64 0, .int .i64 1, .int .i64 0, .int .u64 1, .int .u64 0, .int .i64 1, .int .i64 0] 30))) := Gr.alloc (Gr.trans ⟨by go_grown, by go_grown⟩ hg1) _ _
  revert HA HN HG
  generalize (w1.alloc (.cells #[.int .u64 0, .int .u64 0, .int .u64 1, .int .u64 0, .int .i64 1, .int .i64 0, .int .u64 1, .int .u64 0, .int .i64 1, .int .i64 0] 30)) = W1
  generalize w1.heap.size = XN
  generalize w.heap.size = XA
  intro HA HN HG
  clear hg1
  have a0 := HA.out.cell 0
  have a1 := HA.out.cell 1
  have a2 := HA.out.cell 2
  have a3 := HA.out.cell 3
  have a4 := HA.out.cell 4
  have a5 := HA.out.cell 5
  have a6 := HA.out.cell 6
  have a7 := HA.out.cell 7
  have a8 := HA.out.cell 8
  have a9 := HA.out.cell 9
  simp only [List.getElem?_toArray, List.getElem?_cons_zero, List.getElem?_cons_succ] at a0 a1 a2 a3 a4 a5 a6 a7 a8 a9
  have n0 := HN.out.cell 0
  have n1 := HN.out.cell 1
  have n2 := HN.out.cell 2
  have n3 := HN.out.cell 3
  have n4 := HN.out.cell 4
  have n5 := HN.out.cell 5
  have n6 := HN.out.cell 6
  have n7 := HN.out.cell 7
  have n8 := HN.out.cell 8
  have n9 := HN.out.cell 9
  simp only [List.getElem?_toArray, List.getElem?_cons_zero, List.getElem?_cons_succ] at n0 n1 n2 n3 n4 n5 n6 n7 n8 n9
  go_upto_region 4 with (first
    | (go_at_call 24; refine (does_none_any atv atm aul auh asl ash awl awh avl avh 0#64 0#64 1 0 1 0 1 0 1 0 _ hc0.out.1 hc0.out.2 _ (by simp [nn]) _).mono ?_; rintro e w2 ⟨rfl, hg⟩))
  have HA2 : Hid (AtA (w2.alloc (.cells #[.int .u64 0, .int .u64 0, .int .u64 1, .int .u64 0, .int .i64 1, .int .i64 0, .int .u64 1, .int .u64 0, .int .i64 1, .int .i64 0] 30)) XA #[.int .u64 (iv atv), .int .u64 (iv atm), .int .u64 aul, .int .u64 auh, .int .i64 asl, .int .i64 ash, .int .u64 awl, .int .u64 awh, .int .i64 avl, .int .i64 avh] 30) := (HA.out.gr hg).alloc _
  have HN2 : Hid (AtA (w2.alloc (.cells #[.int .u64 0, .int .u64 0, .int .u64 1, .int .u64 0, .int .i64 1, .int .i64 0, .int .u64 1, .int .u64 0, .int .i64 1, .int .i64 0] 30)) XN #[.int .u64 0, .int .u64 0, .int .u64 1, .int .u64 0, .int .i64 1, .int .i64 0, .int .u64 1, .int .u64 0, .int .i64 1, .int .i64 0] 30) := (HN.out.gr hg).alloc _
  have HX2 : Hid (AtA (w2.alloc (.cells #[.int .u64 0, .int .u64 0, .int .u64 1, .int .u64 0, .int .i64 1, .int .i64 0, .int .u64 1, .int .u64 0, .int .i64 1, .int .i64 0] 30)) w2.heap.size #[.int .u64 0, .int .u64 0, .int .u64 1, .int .u64 0, .int .i64 1, .int .i64 0, .int .u64 1, .int .u64 0, .int .i64 1, .int .i64 0] 30) := AtA.newb _ rfl _ _
  have HG2 : Hid (Gr w (w2.alloc (.cells #[.int .u64 0, .int .u64 0, .int .u64 1, .int .u64 0, .int .i64 1, .int .i64 0, .int .u64 1, .int .u64 0, .int .i64 1, .int .i64 0] 30))) := (HG.out.trans hg).alloc _ _
  clear hg HA HN HG a0 a1 a2 a3 a4 a5 a6 a7 a8 a9 n0 n1 n2 n3 n4 n5 n6 n7 n8 n9
  revert HA2 HN2 HX2 HG2
  generalize (w2.alloc (.cells #[.int .u64 0, .int .u64 0, .int .u64 1, .int .u64 0, .int .i64 1, .int .i64 0, .int .u64 1, .int .u64 0, .int .i64 1, .int .i64 0] 30)) = W2
  generalize w2.heap.size = XX
  intro HA HN HX HG
  have a0 := HA.out.cell 0
  have a1 := HA.out.cell 1
  have a2 := HA.out.cell 2
  have a3 := HA.out.cell 3
  have a4 := HA.out.cell 4
  have a5 := HA.out.cell 5
  have a6 := HA.out.cell 6
  have a7 := HA.out.cell 7
  have a8 := HA.out.cell 8
  have a9 := HA.out.cell 9
  simp only [List.getElem?_toArray, List.getElem?_cons_zero, List.getElem?_cons_succ] at a0 a1 a2 a3 a4 a5 a6 a7 a8 a9
  have n0 := HN.out.cell 0
  have n1 := HN.out.cell 1
  have n2 := HN.out.cell 2
  have n3 := HN.out.cell 3
  have n4 := HN.out.cell 4
  have n5 := HN.out.cell 5
  have n6 := HN.out.cell 6
  have n7 := HN.out.cell 7
  have n8 := HN.out.cell 8
  have n9 := HN.out.cell 9
  simp only [List.getElem?_toArray, List.getElem?_cons_zero, List.getElem?_cons_succ] at n0 n1 n2 n3 n4 n5 n6 n7 n8 n9
  go_upto_region 5 with (first
    | (go_at_call 24; refine (does_none_any 0#64 0#64 1 0 1 0 1 0 1 0 atv atm aul auh asl ash awl awh avl avh _ hc0.out.1 hc0.out.2 _ (by simp [nn]) _).mono ?_; rintro e w3 ⟨rfl, hg⟩))
  have HA2 : Hid (AtA (w3.alloc (.cells #[.int .u64 0, .int .u64 0, .int .u64 1, .int .u64 0, .int .i64 1, .int .i64 0, .int .u64 1, .int .u64 0, .int .i64 1, .int .i64 0] 30)) XA #[.int .u64 (iv atv), .int .u64 (iv atm), .int .u64 aul, .int .u64 auh, .int .i64 asl, .int .i64 ash, .int .u64 awl, .int .u64 awh, .int .i64 avl, .int .i64 avh] 30) := (HA.out.gr hg).alloc _
  have HN2 : Hid (AtA (w3.alloc (.cells #[.int .u64 0, .int .u64 0, .int .u64 1, .int .u64 0, .int .i64 1, .int .i64 0, .int .u64 1, .int .u64 0, .int .i64 1, .int .i64 0] 30)) XN #[.int .u64 0, .int .u64 0, .int .u64 1, .int .u64 0, .int .i64 1, .int .i64 0, .int .u64 1, .int .u64 0, .int .i64 1, .int .i64 0] 30) := (HN.out.gr hg).alloc _
  have HX2 : Hid (AtA (w3.alloc (.cells #[.int .u64 0, .int .u64 0, .int .u64 1, .int .u64 0, .int .i64 1, .int .i64 0, .int .u64 1, .int .u64 0, .int .i64 1, .int .i64 0] 30)) XX #[.int .u64 0, .int .u64 0, .int .u64 1, .int .u64 0, .int .i64 1, .int .i64 0, .int .u64 1, .int .u64 0, .int .i64 1, .int .i64 0] 30) := (HX.out.gr hg).alloc _
  have HY2 : Hid (AtA (w3.alloc (.cells #[.int .u64 0, .int .u64 0, .int .u64 1, .int .u64 0, .int .i64 1, .int .i64 0, .int .u64 1, .int .u64 0, .int .i64 1, .int .i64 0] 30)) w3.heap.size #[.int .u64 0, .int .u64 0, .int .u64 1, .int .u64 0, .int .i64 1, .int .i64 0, .int .u64 1, .int .u64 0, .int .i64 1, .int .i64 0] 30) := AtA.newb _ rfl _ _
  have HG2 : Hid (Gr w (w3.alloc (.cells #[.int .u64 0, .int .u64 0, .int .u64 1, .int .u64 0, .int .i64 1, .int .i64 0, .int .u64 1, .int .u64 0, .int .i64 1, .int .i64 0] 30))) := (HG.out.trans hg).alloc _ _
  clear hg HA HN HX HG a0 a1 a2 a3 a4 a5 a6 a7 a8 a9 n0 n1 n2 n3 n4 n5 n6 n7 n8 n9
  revert HA2 HN2 HX2 HY2 HG2
  generalize (w3.alloc (.cells #[.int .u64 0, .int .u64 0, .int .u64 1, .int .u64 0, .int .i64 1, .int .i64 0, .int .u64 1, .int .u64 0, .int .i64 1, .int .i64 0] 30)) = W3
  generalize w3.heap.size = XY
  intro HA HN HX HY HG
  have qa : ∀ p : GrBy W3, AtA p.to XA _ 30 := fun p => HA.out.gr p.gr
  have qn : ∀ p : GrBy W3, AtA p.to XN _ 30 := fun p => HN.out.gr p.gr
  have qx : ∀ p : GrBy W3, AtA p.to XX _ 30 := fun p => HX.out.gr p.gr
  have qy : ∀ p : GrBy W3, AtA p.to XY _ 30 := fun p => HY.out.gr p.gr
  have a0 : ∀ p : GrBy W3, p.to.cell? ⟨XA, 0, none⟩ = some (.int .u64 (iv atv)) := fun p => by have h := (qa p).cell 0; simpa only [List.getElem?_toArray, List.getElem?_cons_zero, List.getElem?_cons_succ] using h
  have a1 : ∀ p : GrBy W3, p.to.cell? ⟨XA, 1, none⟩ = some (.int .u64 (iv atm)) := fun p => by have h := (qa p).cell 1; simpa only [List.getElem?_toArray, List.getElem?_cons_zero, List.getElem?_cons_succ] using h
  have a2 : ∀ p : GrBy W3, p.to.cell? ⟨XA, 2, none⟩ = some (.int .u64 aul) := fun p => by have h := (qa p).cell 2; simpa only [List.getElem?_toArray, List.getElem?_cons_zero, List.getElem?_cons_succ] using h
  have a3 : ∀ p : GrBy W3, p.to.cell? ⟨XA, 3, none⟩ = some (.int .u64 auh) := fun p => by have h := (qa p).cell 3; simpa only [List.getElem?_toArray, List.getElem?_cons_zero, List.getElem?_cons_succ] using h
  have a4 : ∀ p : GrBy W3, p.to.cell? ⟨XA, 4, none⟩ = some (.int .i64 asl) := fun p => by have h := (qa p).cell 4; simpa only [List.getElem?_toArray, List.getElem?_cons_zero, List.getElem?_cons_succ] using h
  have a5 : ∀ p : GrBy W3, p.to.cell? ⟨XA, 5, none⟩ = some (.int .i64 ash) := fun p => by have h := (qa p).cell 5; simpa only [List.getElem?_toArray, List.getElem?_cons_zero, List.getElem?_cons_succ] using h
  have a6 : ∀ p : GrBy W3, p.to.cell? ⟨XA, 6, none⟩ = some (.int .u64 awl) := fun p => by have h := (qa p).cell 6; simpa only [List.getElem?_toArray, List.getElem?_cons_zero, List.getElem?_cons_succ] using h
  have a7 : ∀ p : GrBy W3, p.to.cell? ⟨XA, 7, none⟩ = some (.int .u64 awh) := fun p => by have h := (qa p).cell 7; simpa only [List.getElem?_toArray, List.getElem?_cons_zero, List.getElem?_cons_succ] using h
  have a8 : ∀ p : GrBy W3, p.to.cell? ⟨XA, 8, none⟩ = some (.int .i64 avl) := fun p => by have h := (qa p).cell 8; simpa only [List.getElem?_toArray, List.getElem?_cons_zero, List.getElem?_cons_succ] using h
  have a9 : ∀ p : GrBy W3, p.to.cell? ⟨XA, 9, none⟩ = some (.int .i64 avh) := fun p => by have h := (qa p).cell 9; simpa only [List.getElem?_toArray, List.getElem?_cons_zero, List.getElem?_cons_succ] using h
  have n0 : ∀ p : GrBy W3, p.to.cell? ⟨XN, 0, none⟩ = some (.int .u64 0) := fun p => by have h := (qn p).cell 0; simpa only [List.getElem?_toArray, List.getElem?_cons_zero, List.getElem?_cons_succ] using h
  have n1 : ∀ p : GrBy W3, p.to.cell? ⟨XN, 1, none⟩ = some (.int .u64 0) := fun p => by have h := (qn p).cell 1; simpa only [List.getElem?_toArray, List.getElem?_cons_zero, List.getElem?_cons_succ] using h
  have n2 : ∀ p : GrBy W3, p.to.cell? ⟨XN, 2, none⟩ = some (.int .u64 1) := fun p => by have h := (qn p).cell 2; simpa only [List.getElem?_toArray, List.getElem?_cons_zero, List.getElem?_cons_succ] using h
  have n3 : ∀ p : GrBy W3, p.to.cell? ⟨XN, 3, none⟩ = some (.int .u64 0) := fun p => by have h := (qn p).cell 3; simpa only [List.getElem?_toArray, List.getElem?_cons_zero, List.getElem?_cons_succ] using h
  have n4 : ∀ p : GrBy W3, p.to.cell? ⟨XN, 4, none⟩ = some (.int .i64 1) := fun p => by have h := (qn p).cell 4; simpa only [List.getElem?_toArray, List.getElem?_cons_zero, List.getElem?_cons_succ] using h
  have n5 : ∀ p : GrBy W3, p.to.cell? ⟨XN, 5, none⟩ = some (.int .i64 0) := fun p => by have h := (qn p).cell 5; simpa only [List.getElem?_toArray, List.getElem?_cons_zero, List.getElem?_cons_succ] using h
  have n6 : ∀ p : GrBy W3, p.to.cell? ⟨XN, 6, none⟩ = some (.int .u64 1) := fun p => by have h := (qn p).cell 6; simpa only [List.getElem?_toArray, List.getElem?_cons_zero, List.getElem?_cons_succ] using h
  have n7 : ∀ p : GrBy W3, p.to.cell? ⟨XN, 7, none⟩ = some (.int .u64 0) := fun p => by have h := (qn p).cell 7; simpa only [List.getElem?_toArray, List.getElem?_cons_zero, List.getElem?_cons_succ] using h
  have n8 : ∀ p : GrBy W3, p.to.cell? ⟨XN, 8, none⟩ = some (.int .i64 1) := fun p => by have h := (qn p).cell 8; simpa only [List.getElem?_toArray, List.getElem?_cons_zero, List.getElem?_cons_succ] using h
  have n9 : ∀ p : GrBy W3, p.to.cell? ⟨XN, 9, none⟩ = some (.int .i64 0) := fun p => by have h := (qn p).cell 9; simpa only [List.getElem?_toArray, List.getElem?_cons_zero, List.getElem?_cons_succ] using h
  have x0 : ∀ p : GrBy W3, p.to.cell? ⟨XX, 0, none⟩ = some (.int .u64 0) := fun p => by have h := (qx p).cell 0; simpa only [List.getElem?_toArray, List.getElem?_cons_zero, List.getElem?_cons_succ] using h
  have x1 : ∀ p : GrBy W3, p.to.cell? ⟨XX, 1, none⟩ = some (.int .u64 0) := fun p => by have h := (qx p).cell 1; simpa only [List.getElem?_toArray, List.getElem?_cons_zero, List.getElem?_cons_succ] using h
  have x2 : ∀ p : GrBy W3, p.to.cell? ⟨XX, 2, none⟩ = some (.int .u64 1) := fun p => by have h := (qx p).cell 2; simpa only [List.getElem?_toArray, List.getElem?_cons_zero, List.getElem?_cons_succ] using h
  have x3 : ∀ p : GrBy W3, p.to.cell? ⟨XX, 3, none⟩ = some (.int .u64 0) := fun p => by have h := (qx p).cell 3; simpa only [List.getElem?_toArray, List.getElem?_cons_zero, List.getElem?_cons_succ] using h
  have x4 : ∀ p : GrBy W3, p.to.cell? ⟨XX, 4, none⟩ = some (.int .i64 1) := fun p => by have h := (qx p).cell 4; simpa only [List.getElem?_toArray, List.getElem?_cons_zero, List.getElem?_cons_succ] using h
  have x5 : ∀ p : GrBy W3, p.to.cell? ⟨XX, 5, none⟩ = some (.int .i64 0) := fun p => by have h := (qx p).cell 5; simpa only [List.getElem?_toArray, List.getElem?_cons_zero, List.getElem?_cons_succ] using h
  have x6 : ∀ p : GrBy W3, p.to.cell? ⟨XX, 6, none⟩ = some (.int .u64 1) := fun p => by have h := (qx p).cell 6; simpa only [List.getElem?_toArray, List.getElem?_cons_zero, List.getElem?_cons_succ] using h
  have x7 : ∀ p : GrBy W3, p.to.cell? ⟨XX, 7, none⟩ = some (.int .u64 0) := fun p => by have h := (qx p).cell 7; simpa only [List.getElem?_toArray, List.getElem?_cons_zero, List.getElem?_cons_succ] using h
  have x8 : ∀ p : GrBy W3, p.to.cell? ⟨XX, 8, none⟩ = some (.int .i64 1) := fun p => by have h := (qx p).cell 8; simpa only [List.getElem?_toArray, List.getElem?_cons_zero, List.getElem?_cons_succ] using h
  have x9 : ∀ p : GrBy W3, p.to.cell? ⟨XX, 9, none⟩ = some (.int .i64 0) := fun p => by have h := (qx p).cell 9; simpa only [List.getElem?_toArray, List.getElem?_cons_zero, List.getElem?_cons_succ] using h
  have y0 : ∀ p : GrBy W3, p.to.cell? ⟨XY, 0, none⟩ = some (.int .u64 0) := fun p => by have h := (qy p).cell 0; simpa only [List.getElem?_toArray, List.getElem?_cons_zero, List.getElem?_cons_succ] using h
  have y1 : ∀ p : GrBy W3, p.to.cell? ⟨XY, 1, none⟩ = some (.int .u64 0) := fun p => by have h := (qy p).cell 1; simpa only [List.getElem?_toArray, List.getElem?_cons_zero, List.getElem?_cons_succ] using h
  have y2 : ∀ p : GrBy W3, p.to.cell? ⟨XY, 2, none⟩ = some (.int .u64 1) := fun p => by have h := (qy p).cell 2; simpa only [List.getElem?_toArray, List.getElem?_cons_zero, List.getElem?_cons_succ] using h
  have y3 : ∀ p : GrBy W3, p.to.cell? ⟨XY, 3, none⟩ = some (.int .u64 0) := fun p => by have h := (qy p).cell 3; simpa only [List.getElem?_toArray, List.getElem?_cons_zero, List.getElem?_cons_succ] using h
  have y4 : ∀ p : GrBy W3, p.to.cell? ⟨XY, 4, none⟩ = some (.int .i64 1) := fun p => by have h := (qy p).cell 4; simpa only [List.getElem?_toArray, List.getElem?_cons_zero, List.getElem?_cons_succ] using h
  have y5 : ∀ p : GrBy W3, p.to.cell? ⟨XY, 5, none⟩ = some (.int .i64 0) := fun p => by have h := (qy p).cell 5; simpa only [List.getElem?_toArray, List.getElem?_cons_zero, List.getElem?_cons_succ] using h
  have y6 : ∀ p : GrBy W3, p.to.cell? ⟨XY, 6, none⟩ = some (.int .u64 1) := fun p => by have h := (qy p).cell 6; simpa only [List.getElem?_toArray, List.getElem?_cons_zero, List.getElem?_cons_succ] using h
  have y7 : ∀ p : GrBy W3, p.to.cell? ⟨XY, 7, none⟩ = some (.int .u64 0) := fun p => by have h := (qy p).cell 7; simpa only [List.getElem?_toArray, List.getElem?_cons_zero, List.getElem?_cons_succ] using h
  have y8 : ∀ p : GrBy W3, p.to.cell? ⟨XY, 8, none⟩ = some (.int .i64 1) := fun p => by have h := (qy p).cell 8; simpa only [List.getElem?_toArray, List.getElem?_cons_zero, List.getElem?_cons_succ] using h
  have y9 : ∀ p : GrBy W3, p.to.cell? ⟨XY, 9, none⟩ = some (.int .i64 0) := fun p => by have h := (qy p).cell 9; simpa only [List.getElem?_toArray, List.getElem?_cons_zero, List.getElem?_cons_succ] using h
  obtain ⟨q0, hq0⟩ : ∃ q : GrBy W3, W3 = q.to := ⟨⟨W3, Gr.refl _⟩, rfl⟩
  rw [show W3 = q0.to from hq0]
  clear qa qn qx qy
  go_wp2_with (first
    | (go_at_call 15; refine (n_true _).mono ?_; rintro e w' ⟨rfl, hg⟩; obtain ⟨q', rfl⟩ := by_of hg; clear hg)
    | (go_at_call 11; refine (s_not _).mono ?_; rintro e w' ⟨rfl, hg⟩; obtain ⟨q', rfl⟩ := by_of hg; clear hg)
    | (go_at_call 21; refine (meet_none atv atm aul auh asl ash awl awh avl avh 0#64 0#64 1 0 1 0 1 0 1 0 (by simp [nn]) _).mono ?_; rintro e w' ⟨rfl, hg⟩; obtain ⟨q', rfl⟩ := by_of hg; clear hg)
    | (go_at_call 27; refine (low_nothing _ _).mono ?_; rintro e w' ⟨rfl, hg⟩; obtain ⟨q', rfl⟩ := by_of hg; clear hg)
    | (go_at_call 19; refine (in_not atv atm aul auh asl ash awl awh avl avh _).mono ?_; rintro e w' ⟨rfl, hg⟩; obtain ⟨q', rfl⟩ := by_of hg; clear hg)
    | (go_at_call 18; refine (has_not n _).mono ?_; rintro e w' ⟨rfl, hg⟩; obtain ⟨q', rfl⟩ := by_of hg; clear hg)
    | (go_at_call 17; refine (works_any _).mono ?_; rintro e w' ⟨rfl, hg⟩; obtain ⟨q', rfl⟩ := by_of hg; clear hg))
  go_ret
  exact ⟨by simp, HG.out.trans (GrBy.gr _)⟩
end Go.Proofs.YtekenpgagfmgkaaGreat
