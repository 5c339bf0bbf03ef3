/- Towards the statements of package tree (layer 16): nodes in memory; their small calls. -/
import Derived.Test.YthgpbbpmfpfjnaaTM
import Derived.LaidEqlPtr
namespace Go.Proofs.Ythgpbbpmfpfjnaa.T
open Go.ChangeShapes Go.WideShapes Go.ChangeAt Go.RowKit
set_option linter.unusedVariables false
set_option linter.unusedSimpArgs false
set_option maxRecDepth 20000
/-- Blocks that are another one's. -/
structure FarT where
  Y : Nat → Prop
  top : Nat
  lt : ∀ k, Y k → k < top
def FY [Inhabited FarT] : Nat → Prop := (default : FarT).Y
def FT [Inhabited FarT] : Nat := (default : FarT).top
theorem FY.lt [Inhabited FarT] {k : Nat} (h : FY k) : k < FT := (default : FarT).lt k h
def pO : Option Nat → Value
  | none => .pointer none
  | some a => .pointer (some ⟨a, 0, none⟩)
theorem pO_some (a : Nat) : pO (some a) = .pointer (some ⟨a, 0, none⟩) := rfl
theorem pO_none : pO none = .pointer none := rfl
def ndC (x : Nd) : Array Value := #[.int .i64 x.k.1, .int .u64 x.k.2, pO x.o, pO x.l, pO x.r, .int .i64 x.s, .int .i64 x.d]
/-- The nodes in memory. -/
def Ms [Inhabited FarT] (w : World) (B : Nat) (M : MN) : Prop := ∀ a x, M a = some x → (B ≤ a ∧ ¬ FY a) ∧ w.heap[a]? = some (.cells (ndC x) 109 (0, 0))
/-- What a call on nodes leaves. -/
structure Fd [Inhabited FarT] (B : Nat) (w w' : World) : Prop where
  bel : Below B w w'
  keep : ∀ (i : Nat) (o : Obj), w.heap[i]? = some o → (∀ cs, o ≠ Obj.cells cs 109 (0, 0)) → w'.heap[i]? = some o
  far : ∀ i, FY i → i < w.heap.size → w'.heap[i]? = w.heap[i]?
theorem Fd.refl [Inhabited FarT] (B : Nat) (w : World) : Fd B w w := ⟨Below.refl _ _, fun i o h _ => h, fun _ _ _ => rfl⟩
theorem Fd.trans [Inhabited FarT] {B : Nat} {w w' w'' : World} (h : Fd B w w') (k : Fd B w' w'') : Fd B w w'' := ⟨h.bel.trans k.bel, fun i o e hn => k.keep i o (h.keep i o e hn) hn, fun i hi hl => (k.far i hi (Nat.lt_of_lt_of_le hl h.bel.size)).trans (h.far i hi hl)⟩
theorem Fd.drew [Inhabited FarT] {B : Nat} {w w' : World} (h : Fd B w w') : Fd B w w'.drew := ⟨h.bel.drew, h.keep, h.far⟩
theorem Fd.drewN [Inhabited FarT] {B : Nat} {w w' : World} (h : Fd B w w') (n : Nat) : Fd B w (w'.drewN n) := ⟨Below.drewN h.bel n, h.keep, h.far⟩
section
variable {w w' : World} {B : Nat} {M : MN} {a : Nat} {x : Nd}
theorem Ms.at [Inhabited FarT] (h : Ms w B M) (e : M a = some x) : w.heap[a]? = some (.cells (ndC x) 109 (0, 0)) := (h a x e).2
theorem Ms.c0 [Inhabited FarT] (h : Ms w B M) (e : M a = some x) : w.cell? ⟨a, 0, none⟩ = some (.int .i64 x.k.1) := by rw [cell_of (h.at e)]; rfl
theorem Ms.c1 [Inhabited FarT] (h : Ms w B M) (e : M a = some x) : w.cell? ⟨a, 1, none⟩ = some (.int .u64 x.k.2) := by rw [cell_of (h.at e)]; rfl
theorem Ms.c2 [Inhabited FarT] (h : Ms w B M) (e : M a = some x) : w.cell? ⟨a, 2, none⟩ = some (pO x.o) := by rw [cell_of (h.at e)]; rfl
theorem Ms.c3 [Inhabited FarT] (h : Ms w B M) (e : M a = some x) : w.cell? ⟨a, 3, none⟩ = some (pO x.l) := by rw [cell_of (h.at e)]; rfl
theorem Ms.c4 [Inhabited FarT] (h : Ms w B M) (e : M a = some x) : w.cell? ⟨a, 4, none⟩ = some (pO x.r) := by rw [cell_of (h.at e)]; rfl
theorem Ms.c5 [Inhabited FarT] (h : Ms w B M) (e : M a = some x) : w.cell? ⟨a, 5, none⟩ = some (.int .i64 x.s) := by rw [cell_of (h.at e)]; rfl
theorem Ms.c6 [Inhabited FarT] (h : Ms w B M) (e : M a = some x) : w.cell? ⟨a, 6, none⟩ = some (.int .i64 x.d) := by rw [cell_of (h.at e)]; rfl
theorem Ms.fr [Inhabited FarT] (h : Ms w B M) (e : M a = some x) (j : Nat) : w.frozen? ⟨a, j, none⟩ = false := froz_of (h.at e) j
theorem Ms.set [Inhabited FarT] (h : Ms w B M) (e : M a = some x) (j : Nat) (v : Value) (x' : Nd) (hx : (ndC x).setIfInBounds j v = ndC x') : Ms (w.setCell ⟨a, j, none⟩ v) B (upN M a x') := by
  intro b y hy
  by_cases q : b = a
  · subst q
    rw [upN_self] at hy
    cases hy
    refine ⟨(h _ _ e).1, ?_⟩
    rw [← hx]
    exact heap_setCell_same w b j _ _ v (h.at e)
  · rw [upN_ne _ _ q] at hy
    exact ⟨(h _ _ hy).1, (Below.heap_setCell _ _ _ _ (by simpa using q)).trans (h.at hy)⟩
theorem Ms.fset [Inhabited FarT] (h : Ms w B M) (e : M a = some x) (j : Nat) (v : Value) : Fd B w (w.setCell ⟨a, j, none⟩ v) :=
  ⟨(Below.refl B w).setCell (h _ _ e).1.1 _, fun i o ho hn => (Below.heap_setCell _ _ _ _ (by rintro rfl; rw [h.at e] at ho; cases ho; exact hn _ rfl)).trans ho, fun i hi _ => Below.heap_setCell _ _ _ _ (by rintro rfl; exact (h _ _ e).1.2 hi)⟩
theorem Ms.keep [Inhabited FarT] (h : Ms w B M) (hb : Below w.heap.size w w') : Ms w' B M := fun b y hy => ⟨(h b y hy).1, (hb.block _ (heap_lt (h.at hy))).trans (h.at hy)⟩
theorem Ms.drew [Inhabited FarT] (h : Ms w B M) : Ms w.drew B M := h
theorem Ms.drewN [Inhabited FarT] (h : Ms w B M) (n : Nat) : Ms (w.drewN n) B M := h
theorem Ms.size [Inhabited FarT] (h : Ms w B M) (e : M a = some x) : B ≤ w.heap.size := Nat.le_trans (h _ _ e).1.1 (Nat.le_of_lt (heap_lt (h.at e)))
end
theorem cell_dr {w : World} {p : Addr} {v : Value} (h : w.cell? p = some v) : w.drew.cell? p = some v := h
theorem cell_st {w : World} {p q : Addr} {u v : Value} (hne : p ≠ q) (h : w.cell? q = some v) : (w.setCell p u).cell? q = some v := by
  rw [World.cell?_setCell_other] <;> assumption
theorem inf61 : ∃ j, Try.prog.info? 109 = some j ∧ j.size ≠ 0 := by
  have e : (Try.prog.info? 109).map (fun i => i.size) = some 7 := by kernel_rfl
  cases h : Try.prog.info? 109 with
  | none => rw [h] at e; cases e
  | some j => rw [h] at e; simp at e; exact ⟨j, rfl, by omega⟩
theorem eqp_no (W : World) : (binOp .eql 106 (.pointer none) (.pointer none)).run Try.prog W = .ok (.bool true) W := by kernel_rfl
theorem eqp_yes (x : Nat) (W : World) : (binOp .eql 106 (.pointer (some ⟨x, 0, none⟩)) (.pointer none)).run Try.prog W = .ok (.bool false) W := by kernel_rfl
theorem nep_no (W : World) : (binOp .neq 106 (.pointer none) (.pointer none)).run Try.prog W = .ok (.bool false) W := by kernel_rfl
theorem nep_yes (x : Nat) (W : World) : (binOp .neq 106 (.pointer (some ⟨x, 0, none⟩)) (.pointer none)).run Try.prog W = .ok (.bool true) W := by kernel_rfl
theorem eqp_on (x : Nat) (W : World) : (binOp .eql 106 (.pointer none) (.pointer (some ⟨x, 0, none⟩))).run Try.prog W = .ok (.bool false) W := by kernel_rfl
theorem eqp_same (x : Nat) (W : World) : (binOp .eql 106 (.pointer (some ⟨x, 0, none⟩)) (.pointer (some ⟨x, 0, none⟩))).run Try.prog W = .ok (.bool true) W := by
  obtain ⟨j, hj, _⟩ := inf61
  exact run_eql_ptr_same W _ Try.underlying106 hj
theorem eqp_other [Inhabited FarT] {x y : Nat} {W : World} {B : Nat} {M : MN} {u v : Nd} (hne : x ≠ y) (h : Ms W B M) (hx : M x = some u) (hy : M y = some v) : (binOp .eql 106 (.pointer (some ⟨x, 0, none⟩)) (.pointer (some ⟨y, 0, none⟩))).run Try.prog W = .ok (.bool false) W := by
  obtain ⟨j, hj, h0⟩ := inf61
  exact run_eql_ptr_other W Try.underlying106 hj h0 (by simp [hne]) (h.at hx) (h.at hy)
theorem neqp_same (x : Nat) (W : World) : (binOp .neq 106 (.pointer (some ⟨x, 0, none⟩)) (.pointer (some ⟨x, 0, none⟩))).run Try.prog W = .ok (.bool false) W := by
  obtain ⟨j, hj, _⟩ := inf61
  have h : ∀ d : Nat, (Op.equalIn (d + 1) 106 (.pointer (some ⟨x, 0, none⟩)) (.pointer (some ⟨x, 0, none⟩))).run Try.prog W = .ok true W := fun d => by
    simp [Op.equalIn, run_underlying Try.underlying106, sizeOf, typeInfo, hj, run_sameAddr_same]
  simp only [binOp]
  simp [Op.equal, Op.maxDepth, h 9999]
theorem neqp_other [Inhabited FarT] {x y : Nat} {W : World} {B : Nat} {M : MN} {u v : Nd} (hne : x ≠ y) (hM : Ms W B M) (hx : M x = some u) (hy : M y = some v) : (binOp .neq 106 (.pointer (some ⟨x, 0, none⟩)) (.pointer (some ⟨y, 0, none⟩))).run Try.prog W = .ok (.bool true) W := by
  obtain ⟨j, hj, h0⟩ := inf61
  have hn : (⟨x, 0, none⟩ : Addr) ≠ ⟨y, 0, none⟩ := by simp [hne]
  have h : ∀ d : Nat, (Op.equalIn (d + 1) 106 (.pointer (some ⟨x, 0, none⟩)) (.pointer (some ⟨y, 0, none⟩))).run Try.prog W = .ok false W := fun d => by
    simp [Op.equalIn, run_underlying Try.underlying106, sizeOf, typeInfo, hj, h0, run_sameAddr_other W hn (hM.at hx) (hM.at hy)]
  simp only [binOp]
  simp [Op.equal, Op.maxDepth, h 9999]
theorem nlen_any [Inhabited FarT] (w : World) (B : Nat) (M : MN) (h : Ms w B M) (p : Option Nat) (hp : ∀ a, p = some a → ∃ x, M a = some x) :
    Calls Try.prog 105 #[pO p] w fun e w' => e = .returned (.int .i64 (szM M p : Nat)) ∧ w' = w := by
  cases p with
  | none =>
    have q := eqp_no
    unfold pO
    go_enter Try.func105, Try.ntmps105
    go_wp2
    all_goals go_returns
    all_goals exact ⟨rfl, rfl⟩
  | some a =>
    obtain ⟨x, hx⟩ := hp a rfl
    have q := eqp_yes
    have c5 := h.c5 hx
    have e : szM M (some a) = x.s := by simp [szM, hx]
    rw [e]
    unfold pO
    go_enter Try.func105, Try.ntmps105
    go_wp2
    all_goals go_returns
    all_goals exact ⟨rfl, rfl⟩
theorem ndep_any [Inhabited FarT] (w : World) (B : Nat) (M : MN) (h : Ms w B M) (p : Option Nat) (hp : ∀ a, p = some a → ∃ x, M a = some x) :
    Calls Try.prog 108 #[pO p] w fun e w' => e = .returned (.int .i64 (dpM M p : Nat)) ∧ w' = w := by
  cases p with
  | none =>
    have q := eqp_no
    unfold pO
    go_enter Try.func108, Try.ntmps108
    go_wp2
    all_goals go_returns
    all_goals exact ⟨rfl, rfl⟩
  | some a =>
    obtain ⟨x, hx⟩ := hp a rfl
    have q := eqp_yes
    have c5 := h.c6 hx
    have e : dpM M (some a) = x.d := by simp [dpM, hx]
    rw [e]
    unfold pO
    go_enter Try.func108, Try.ntmps108
    go_wp2
    all_goals go_returns
    all_goals exact ⟨rfl, rfl⟩
def sI (s : Bool) : Int := if s then 1 else 0
theorem side_any [Inhabited FarT] (w : World) (B : Nat) (M : MN) (h : Ms w B M) (n o : Nat) (x O : Nd) (hn : M n = some x) (hxo : x.o = some o) (ho : M o = some O) (s : Bool) (hk : O.kid s = some n) (hs : s = false → O.r ≠ some n) (hr : ∀ a, O.r = some a → ∃ y, M a = some y) :
    Calls Try.prog 110 #[.pointer (some ⟨n, 0, none⟩)] w fun e w' => e = .returned (.int .i64 (sI s)) ∧ w' = w := by
  have c2 := h.c2 hn
  rw [hxo] at c2
  have c4 := h.c4 ho
  cases s with
  | true =>
    simp [Nd.kid] at hk
    rw [hk] at c4
    have q := eqp_same n
    unfold pO at c2 c4
    go_enter Try.func110, Try.ntmps110
    go_wp2
    all_goals go_returns
    all_goals exact ⟨rfl, rfl⟩
  | false =>
    have hs' := hs rfl
    cases e : O.r with
    | none =>
      rw [e] at c4
      have q := eqp_on n
      unfold pO at c2 c4
      go_enter Try.func110, Try.ntmps110
      go_wp2
      all_goals go_returns
      all_goals exact ⟨rfl, rfl⟩
    | some m =>
      rw [e] at c4 hs'
      obtain ⟨y, hy⟩ := hr m e
      have q := eqp_other (W := w) (x := m) (y := n) (by rintro rfl; exact hs' rfl) h hy hn
      unfold pO at c2 c4
      go_enter Try.func110, Try.ntmps110
      go_wp2
      all_goals go_returns
      all_goals exact ⟨rfl, rfl⟩
def Nd.over (x : Nd) (p : Option Nat) : Nd := { x with o := p }
theorem hang_none [Inhabited FarT] (w : World) (B : Nat) (M : MN) (h : Ms w B M) (n : Nat) (x : Nd) (hn : M n = some x) (s : Bool) :
    Calls Try.prog 103 #[.pointer (some ⟨n, 0, none⟩), .int .i64 (sI s), .pointer none] w fun e w' => e = .returned (.tuple #[]) ∧ Ms w' B (upN M n (x.setKid s none)) ∧ Fd B w w' := by
  have q := nep_no
  cases s with
  | true =>
    have c4 := h.c4 hn
    have f4 := h.fr hn 4
    have h2 := h.set hn 4 (.pointer none) (x.setKid true none) rfl
    have hF := h.fset hn 4 (.pointer none)
    unfold sI
    go_enter Try.func103, Try.ntmps103
    go_wp2
    all_goals go_returns
    all_goals exact ⟨rfl, h2, hF⟩
  | false =>
    have c4 := h.c3 hn
    have f4 := h.fr hn 3
    have h2 := h.set hn 3 (.pointer none) (x.setKid false none) rfl
    have hF := h.fset hn 3 (.pointer none)
    unfold sI
    go_enter Try.func103, Try.ntmps103
    go_wp2
    all_goals go_returns
    all_goals exact ⟨rfl, h2, hF⟩
theorem hang_some [Inhabited FarT] (w : World) (B : Nat) (M : MN) (h : Ms w B M) (n u : Nat) (hnu : n ≠ u) (x y : Nd) (hn : M n = some x) (hu : M u = some y) (s : Bool) :
    Calls Try.prog 103 #[.pointer (some ⟨n, 0, none⟩), .int .i64 (sI s), .pointer (some ⟨u, 0, none⟩)] w fun e w' => e = .returned (.tuple #[]) ∧ Ms w' B (upN (upN M n (x.setKid s (some u))) u (y.over (some n))) ∧ Fd B w w' := by
  have q := nep_yes
  cases s with
  | true =>
    have c4 := h.c4 hn
    have f4 := h.fr hn 4
    have h2 := h.set hn 4 (.pointer (some ⟨u, 0, none⟩)) (x.setKid true (some u)) rfl
    have hF := h.fset hn 4 (.pointer (some ⟨u, 0, none⟩))
    have hu2 : upN M n (x.setKid true (some u)) u = some y := by rw [upN_ne _ _ hnu.symm]; exact hu
    have c2 := h2.c2 hu2
    have f2 := h2.fr hu2 2
    have h3 := h2.set hu2 2 (.pointer (some ⟨n, 0, none⟩)) (y.over (some n)) rfl
    have hF3 := hF.trans (h2.fset hu2 2 (.pointer (some ⟨n, 0, none⟩)))
    unfold sI
    go_enter Try.func103, Try.ntmps103
    go_wp2
    all_goals go_returns
    all_goals exact ⟨rfl, h3, hF3⟩
  | false =>
    have c4 := h.c3 hn
    have f4 := h.fr hn 3
    have h2 := h.set hn 3 (.pointer (some ⟨u, 0, none⟩)) (x.setKid false (some u)) rfl
    have hF := h.fset hn 3 (.pointer (some ⟨u, 0, none⟩))
    have hu2 : upN M n (x.setKid false (some u)) u = some y := by rw [upN_ne _ _ hnu.symm]; exact hu
    have c2 := h2.c2 hu2
    have f2 := h2.fr hu2 2
    have h3 := h2.set hu2 2 (.pointer (some ⟨n, 0, none⟩)) (y.over (some n)) rfl
    have hF3 := hF.trans (h2.fset hu2 2 (.pointer (some ⟨n, 0, none⟩)))
    unfold sI
    go_enter Try.func103, Try.ntmps103
    go_wp2
    all_goals go_returns
    all_goals exact ⟨rfl, h3, hF3⟩
/-- How many, and how deep, found out anew. -/
def Nd.anew (x : Nd) (M : MN) : Nd := { x with s := szM M x.l + 1 + szM M x.r, d := 1 + max (dpM M x.l) (dpM M x.r) }
theorem reckon_any [Inhabited FarT] (w : World) (B : Nat) (M : MN) (h : Ms w B M) (n : Nat) (x : Nd) (hn : M n = some x) (hl : ∀ a, x.l = some a → a ≠ n ∧ ∃ y, M a = some y) (hr : ∀ a, x.r = some a → a ≠ n ∧ ∃ y, M a = some y) (b1 : szM M x.l ≤ 1000000) (b2 : szM M x.r ≤ 1000000) (b3 : dpM M x.l ≤ 1000000) (b4 : dpM M x.r ≤ 1000000) :
    Calls Try.prog 107 #[.pointer (some ⟨n, 0, none⟩)] w fun e w' => e = .returned (.tuple #[]) ∧ Ms w' B (upN M n (x.anew M)) ∧ Fd B w w' := by
  have c3 := h.c3 hn
  have c4 := h.c4 hn
  have c5 := h.c5 hn
  have f5 := h.fr hn 5
  have k1 := nlen_any w.drew B M h.drew x.l (fun a e => (hl a e).2)
  have k2 := nlen_any w.drew B M h.drew x.r (fun a e => (hr a e).2)
  have h2 := h.set hn 5 (.int .i64 ((szM M x.l : Int) + 1 + (szM M x.r : Int))) { x with s := szM M x.l + 1 + szM M x.r } (by simp [ndC])
  have hF := h.fset hn 5 (.int .i64 ((szM M x.l : Int) + 1 + (szM M x.r : Int)))
  have e1 : IntKind.i64.wrap ((szM M x.l : Int) + 1) = (szM M x.l : Int) + 1 := IntWalk.i64_in _ (by omega)
  have e2 : IntKind.i64.wrap ((szM M x.l : Int) + 1 + (szM M x.r : Int)) = (szM M x.l : Int) + 1 + (szM M x.r : Int) := IntWalk.i64_in _ (by omega)
  generalize hv1 : pO x.l = v1 at c3 k1
  generalize hv2 : pO x.r = v2 at c4 k2
  generalize hz1 : (szM M x.l : Int) = z1 at h2 hF e1 e2 k1
  generalize hz2 : (szM M x.r : Int) = z2 at h2 hF e2 k2
  go_enter Try.func107, Try.ntmps107
  go_wp2
  go_region_held3 (fun w' => w'.cell? ⟨n, 3, none⟩ = some v1 ∧ w'.cell? ⟨n, 4, none⟩ = some v2) ((refine ⟨?_, ?_⟩ <;> repeat (with_reducible (first | assumption | apply cell_dr | refine cell_st (by simp) ?_)))) (first
    | (go_at_call_of 105 (v1); refine k1.mono ?_; rintro e w' ⟨rfl, hw⟩; rw [hw]; clear hw)
    | (go_at_call_of 105 (v2); refine k2.mono ?_; rintro e w' ⟨rfl, hw⟩; rw [hw]; clear hw))
  have hM2 := h2.drew
  have hF2 := hF.drew
  have hn2 := upN_self M n { x with s := szM M x.l + 1 + szM M x.r }
  generalize (w.setCell ⟨n, 5, none⟩ (.int .i64 (z1 + 1 + z2))).drew = W at hM2 hF2 ⊢
  clear h2 hF k1 k2 c3 c4 c5 f5 e1 e2 hz1 hz2
  subst hv1 hv2
  have c3 := hM2.c3 hn2
  have c4 := hM2.c4 hn2
  have c6 := hM2.c6 hn2
  have f6 := hM2.fr hn2 6
  have hdl : dpM (upN M n { x with s := szM M x.l + 1 + szM M x.r }) x.l = dpM M x.l := by
    cases e : x.l with
    | none => rfl
    | some a => simp [dpM, upN_ne _ _ (hl a e).1]
  have hdr : dpM (upN M n { x with s := szM M x.l + 1 + szM M x.r }) x.r = dpM M x.r := by
    cases e : x.r with
    | none => rfl
    | some a => simp [dpM, upN_ne _ _ (hr a e).1]
  have k1 := ndep_any W.drew B _ hM2.drew x.l (fun a e => by rw [upN_ne _ _ (hl a e).1]; exact (hl a e).2)
  have k2 := ndep_any W.drew B _ hM2.drew x.r (fun a e => by rw [upN_ne _ _ (hr a e).1]; exact (hr a e).2)
  rw [hdl] at k1
  rw [hdr] at k2
  have h2 := hM2.set hn2 6 (.int .i64 (1 + max (dpM M x.l : Int) (dpM M x.r : Int))) (x.anew M) (by simp [ndC, Nd.anew]; omega)
  have hF := hF2.trans (hM2.fset hn2 6 (.int .i64 (1 + max (dpM M x.l : Int) (dpM M x.r : Int))))
  have e2 : IntKind.i64.wrap (1 + max (dpM M x.l : Int) (dpM M x.r : Int)) = 1 + max (dpM M x.l : Int) (dpM M x.r : Int) := IntWalk.i64_in _ (by omega)
  have hup : upN (upN M n { x with s := szM M x.l + 1 + szM M x.r }) n (x.anew M) = upN M n (x.anew M) := by
    funext b; simp only [upN]; split <;> rfl
  rw [hup] at h2
  generalize hv1 : pO x.l = v1 at c3 k1
  generalize hv2 : pO x.r = v2 at c4 k2
  generalize hz1 : (dpM M x.l : Int) = z1 at h2 hF e2 k1
  generalize hz2 : (dpM M x.r : Int) = z2 at h2 hF e2 k2
  clear hn2 hdl hdr hM2 hF2 hup
  go_wp2
  have hpost : ∀ v, v = max z1 z2 → Ms (W.setCell ⟨n, 6, none⟩ (.int .i64 (1 + v))).drew B (upN M n (x.anew M)) ∧ Fd B w (W.setCell ⟨n, 6, none⟩ (.int .i64 (1 + v))).drew := fun v e => by subst e; exact ⟨h2.drew, hF.drew⟩
  rcases Int.lt_or_le z1 z2 with hlt | hle
  · rw [show max z1 z2 = z2 by omega] at e2 hpost
    go_region_held3 (fun w' => w'.cell? ⟨n, 3, none⟩ = some v1 ∧ w'.cell? ⟨n, 4, none⟩ = some v2) ((refine ⟨?_, ?_⟩ <;> repeat (with_reducible (first | assumption | apply cell_dr | refine cell_st (by simp) ?_)))) (first
      | (go_at_call_of 108 (v1); refine k1.mono ?_; rintro e w' ⟨rfl, hw⟩; rw [hw]; clear hw)
      | (go_at_call_of 108 (v2); refine k2.mono ?_; rintro e w' ⟨rfl, hw⟩; rw [hw]; clear hw))
    go_wp2
    all_goals go_returns
    all_goals exact ⟨rfl, hpost _ rfl⟩
  · rw [show max z1 z2 = z1 by omega] at e2 hpost
    go_region_held3 (fun w' => w'.cell? ⟨n, 3, none⟩ = some v1 ∧ w'.cell? ⟨n, 4, none⟩ = some v2) ((refine ⟨?_, ?_⟩ <;> repeat (with_reducible (first | assumption | apply cell_dr | refine cell_st (by simp) ?_)))) (first
      | (go_at_call_of 108 (v1); refine k1.mono ?_; rintro e w' ⟨rfl, hw⟩; rw [hw]; clear hw)
      | (go_at_call_of 108 (v2); refine k2.mono ?_; rintro e w' ⟨rfl, hw⟩; rw [hw]; clear hw))
    go_wp2
    all_goals go_returns
    all_goals exact ⟨rfl, hpost _ rfl⟩
end Go.Proofs.Ythgpbbpmfpfjnaa.T
