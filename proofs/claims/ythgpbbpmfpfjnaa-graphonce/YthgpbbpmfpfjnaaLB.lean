/- Towards the statements of package list (layer 15): a list in memory; its small calls. -/
import Derived.Test.YthgpbbpmfpfjnaaLA
import Derived.Test.YthgpbbpmfpfjnaaRG
namespace Go.Proofs.Ythgpbbpmfpfjnaa
open Go.ChangeShapes Go.WideShapes Go.ChangeAt Go.RowKit
set_option linter.unusedVariables false
set_option linter.unusedSimpArgs false
set_option maxRecDepth 20000
abbrev ptr (x : Nat) : Value := .pointer (some ⟨x, 0, none⟩)
/-- Block x is a link. -/
def Lk (w : World) (nx pv : Nat → Nat) (ky : Nat → HKey) (x : Nat) : Prop :=
  w.heap[x]? = some (.cells #[.int .i64 (ky x).1, .int .u64 (ky x).2, .pointer (some ⟨pv x, 0, none⟩), .pointer (some ⟨nx x, 0, none⟩)] 119 (0, 0))
/-- A list at block b: its map at m, the ring of its links from e on. -/
structure Ls (w : World) (B b m e : Nat) (nx pv : Nat → Nat) (ky : Nat → HKey) (N : List Nat) : Prop where
  cells : w.heap[b]? = some (.cells #[.map (some m), .pointer (some ⟨e, 0, none⟩)] 104 (0, 0))
  bB : B ≤ b
  mB : B ≤ m
  eB : ∀ x ∈ e :: N, B ≤ x
  map : ∃ n F, HM w m n F ∧ ∀ h v, F h = some v ↔ ∃ x ∈ N, ky x = h ∧ v = .pointer (some ⟨x, 0, none⟩)
  ring : Seg nx pv e N e
  nd : (e :: N).Nodup
  lk : ∀ x ∈ e :: N, Lk w nx pv ky x
  kd : (N.map ky).Nodup
theorem Lk.lt {w : World} {nx pv : Nat → Nat} {ky : Nat → HKey} {x : Nat} (h : Lk w nx pv ky x) : x < w.heap.size := heap_lt h
theorem Lk.keep {w w' : World} {nx pv : Nat → Nat} {ky : Nat → HKey} {x : Nat} (h : Lk w nx pv ky x) (e : w'.heap[x]? = w.heap[x]?) : Lk w' nx pv ky x := e.trans h
theorem Lk.c0 {w : World} {nx pv : Nat → Nat} {ky : Nat → HKey} {x : Nat} (h : Lk w nx pv ky x) : w.cell? ⟨x, 0, none⟩ = some (.int .i64 (ky x).1) := by rw [cell_of h]; rfl
theorem Lk.c1 {w : World} {nx pv : Nat → Nat} {ky : Nat → HKey} {x : Nat} (h : Lk w nx pv ky x) : w.cell? ⟨x, 1, none⟩ = some (.int .u64 (ky x).2) := by rw [cell_of h]; rfl
theorem Lk.c2 {w : World} {nx pv : Nat → Nat} {ky : Nat → HKey} {x : Nat} (h : Lk w nx pv ky x) : w.cell? ⟨x, 2, none⟩ = some (.pointer (some ⟨pv x, 0, none⟩)) := by rw [cell_of h]; rfl
theorem Lk.c3 {w : World} {nx pv : Nat → Nat} {ky : Nat → HKey} {x : Nat} (h : Lk w nx pv ky x) : w.cell? ⟨x, 3, none⟩ = some (.pointer (some ⟨nx x, 0, none⟩)) := by rw [cell_of h]; rfl
theorem Lk.fr {w : World} {nx pv : Nat → Nat} {ky : Nat → HKey} {x : Nat} (h : Lk w nx pv ky x) (k : Nat) : w.frozen? ⟨x, k, none⟩ = false := froz_of h k
/-- The link ahead of one, and the one behind it, set anew. -/
theorem lk_set2 {w : World} {nx pv : Nat → Nat} {ky : Nat → HKey} {S : List Nat} (h : ∀ x ∈ S, Lk w nx pv ky x) {y g : Nat} (hy : y ∈ S) : ∀ x ∈ S, Lk (w.setCell ⟨y, 2, none⟩ (.pointer (some ⟨g, 0, none⟩))) nx (upd pv y g) ky x := by
  intro x hx
  by_cases e : x = y
  · subst e
    have := heap_setCell_same w x 2 _ _ (.pointer (some ⟨g, 0, none⟩)) (h x hx)
    unfold Lk
    rw [upd_self]
    exact this
  · unfold Lk
    rw [upd_ne _ _ e, Below.heap_setCell _ _ _ _ (by simpa using e)]
    exact h x hx
theorem lk_set3 {w : World} {nx pv : Nat → Nat} {ky : Nat → HKey} {S : List Nat} (h : ∀ x ∈ S, Lk w nx pv ky x) {y g : Nat} (hy : y ∈ S) : ∀ x ∈ S, Lk (w.setCell ⟨y, 3, none⟩ (.pointer (some ⟨g, 0, none⟩))) (upd nx y g) pv ky x := by
  intro x hx
  by_cases e : x = y
  · subst e
    have := heap_setCell_same w x 3 _ _ (.pointer (some ⟨g, 0, none⟩)) (h x hx)
    unfold Lk
    rw [upd_self]
    exact this
  · unfold Lk
    rw [upd_ne _ _ e, Below.heap_setCell _ _ _ _ (by simpa using e)]
    exact h x hx
theorem Ls.below {w w' : World} {B b m e : Nat} {nx pv : Nat → Nat} {ky : Nat → HKey} {N : List Nat} (h : Ls w B b m e nx pv ky N) (hb : ∀ k ∈ b :: m :: e :: N, w'.heap[k]? = w.heap[k]?) : Ls w' B b m e nx pv ky N := by
  obtain ⟨n, F, hF, hF2⟩ := h.map
  exact ⟨(hb _ (by simp)).trans h.cells, h.bB, h.mB, h.eB, ⟨n, F, hF.keep (hb _ (by simp)), hF2⟩, h.ring, h.nd, fun x hx => (h.lk x hx).keep (hb _ (.tail _ (.tail _ hx))), h.kd⟩
theorem Ls.lt {w : World} {B b m e : Nat} {nx pv : Nat → Nat} {ky : Nat → HKey} {N : List Nat} (h : Ls w B b m e nx pv ky N) : ∀ k ∈ b :: m :: e :: N, k < w.heap.size := by
  intro k hk
  obtain ⟨n, F, hF, _⟩ := h.map
  rcases List.mem_cons.1 hk with rfl | hk
  · exact heap_lt h.cells
  rcases List.mem_cons.1 hk with rfl | hk
  · exact hF.lt
  · exact (h.lk k hk).lt
theorem Ls.bel {w w' : World} {B b m e : Nat} {nx pv : Nat → Nat} {ky : Nat → HKey} {N : List Nat} (h : Ls w B b m e nx pv ky N) (hb : Below w.heap.size w w') : Ls w' B b m e nx pv ky N := h.below fun k hk => hb.block k (h.lt k hk)
theorem Ls.alloc {w : World} {B b m e : Nat} {nx pv : Nat → Nat} {ky : Nat → HKey} {N : List Nat} (h : Ls w B b m e nx pv ky N) (o : Obj) : Ls (w.alloc o) B b m e nx pv ky N := h.bel ((Below.refl _ w).alloc (Nat.le_refl _) _)
theorem Ls.drew {w : World} {B b m e : Nat} {nx pv : Nat → Nat} {ky : Nat → HKey} {N : List Nat} (h : Ls w B b m e nx pv ky N) : Ls w.drew B b m e nx pv ky N := h.bel (Below.refl _ _).drew
theorem Ls.size {w : World} {B b m e : Nat} {nx pv : Nat → Nat} {ky : Nat → HKey} {N : List Nat} (h : Ls w B b m e nx pv ky N) : B ≤ w.heap.size := Nat.le_trans h.bB (Nat.le_of_lt (heap_lt h.cells))
theorem made_nil (w : World) : Calls Try.prog 81 #[.pointer none] w fun e w' => e = .returned (.bool false) ∧ w' = w := by
  go_enter Try.func81, Try.ntmps81
  go_wp2
  all_goals go_returns
  all_goals exact ⟨rfl, rfl⟩
theorem nem_some (m : Nat) (W : World) : (binOp .neq 100 (.map (some m)) (.map none)).run Try.prog W = .ok (.bool true) W := by kernel_rfl
theorem made_yes (w : World) (b m : Nat) (h0 : w.cell? ⟨b, 0, none⟩ = some (.map (some m))) : Calls Try.prog 81 #[.pointer (some ⟨b, 0, none⟩)] w fun e w' => e = .returned (.bool true) ∧ w' = w := by
  have e1 := nem_some m w
  go_enter Try.func81, Try.ntmps81
  go_wp2
  all_goals go_returns
  all_goals exact ⟨rfl, rfl⟩
theorem Ls.cB {w : World} {B b m e : Nat} {nx pv : Nat → Nat} {ky : Nat → HKey} {N : List Nat} (h : Ls w B b m e nx pv ky N) : w.cell? ⟨b, 0, none⟩ = some (.map (some m)) ∧ w.cell? ⟨b, 1, none⟩ = some (.pointer (some ⟨e, 0, none⟩)) := by
  constructor <;> (rw [cell_of h.cells]; rfl)
theorem zero56 (w : World) : (zeroValue 101).run Try.prog w = .ok (.pointer none) w := by kernel_rfl
theorem link_nil (h : HKey) (w : World) : Calls Try.prog 85 #[.pointer none, .agg #[.int .i64 h.1, .int .u64 h.2]] w fun e w' => e = .returned (.pointer none) ∧ w' = w.alloc (.cells #[.int .i64 h.1, .int .u64 h.2] 31) := by
  have k1 := fun W => made_nil W
  go_enter Try.func85, Try.ntmps85
  go_wp2_with (go_at_call 81; refine (k1 _).mono ?_; rintro e w' ⟨rfl, hw⟩; rw [hw]; clear hw)
  all_goals go_returns
  all_goals exact ⟨rfl, rfl⟩
/-- The link of a handle, as a value. -/
theorem Ls.look {w : World} {B b m e : Nat} {nx pv : Nat → Nat} {ky : Nat → HKey} {N : List Nat} (h : Ls w B b m e nx pv ky N) (k : HKey) :
    ∃ v, (∀ w', w'.heap[m]? = w.heap[m]? → (Instr.lookup 100 (.map (some m)) (.agg #[.int .i64 k.1, .int .u64 k.2]) false).run Try.prog w' = .ok v w') ∧ ((v = .pointer none ∧ k ∉ N.map ky) ∨ ∃ x ∈ N, ky x = k ∧ v = .pointer (some ⟨x, 0, none⟩)) := by
  obtain ⟨n, F, hF, hF2⟩ := h.map
  refine ⟨(F k).getD (.pointer none), fun w' hw => HM.look1 Try.underlying100 (hF.keep hw) k (zero56 w'), ?_⟩
  cases e : F k with
  | none =>
    refine .inl ⟨rfl, fun hk => ?_⟩
    obtain ⟨x, hx, hxk⟩ := List.mem_map.1 hk
    have := (hF2 k _).2 ⟨x, hx, hxk, rfl⟩
    rw [e] at this
    cases this
  | some v =>
    obtain ⟨x, hx, hxk, rfl⟩ := (hF2 k v).1 e
    exact .inr ⟨x, hx, hxk, rfl⟩
theorem link_any (w : World) (B b m e : Nat) (nx pv : Nat → Nat) (ky : Nat → HKey) (N : List Nat) (h : Ls w B b m e nx pv ky N) (k : HKey) :
    Calls Try.prog 85 #[.pointer (some ⟨b, 0, none⟩), .agg #[.int .i64 k.1, .int .u64 k.2]] w fun e' w' => ∃ v, e' = .returned v ∧ ((v = .pointer none ∧ k ∉ N.map ky) ∨ ∃ x ∈ N, ky x = k ∧ v = .pointer (some ⟨x, 0, none⟩)) ∧ Below w.heap.size w w' := by
  obtain ⟨c0, c1⟩ := h.cB
  obtain ⟨v, hv, hv2⟩ := h.look k
  have hm : ∀ o, (w.alloc o).heap[m]? = w.heap[m]? := fun o => by
    obtain ⟨n, F, hF, _⟩ := h.map
    exact Below.heap_alloc _ _ _ hF.lt
  have k1 := made_yes (w.alloc (.cells #[.int .i64 k.1, .int .u64 k.2] 31)) b m (cell_al c0 _)
  have q1 := hv (w.alloc (.cells #[.int .i64 k.1, .int .u64 k.2] 31)).drew (hm _)
  have d0 := cell_al c0 (.cells #[.int .i64 k.1, .int .u64 k.2] 31)
  go_enter Try.func85, Try.ntmps85
  go_upto_region 3 with (go_at_call 81; refine k1.mono ?_; rintro e w' ⟨rfl, hw⟩; rw [hw]; clear hw)
  go_region
  go_wp2
  all_goals go_returns
  all_goals exact ⟨v, rfl, hv2, ((Below.refl _ w).alloc (Nat.le_refl _) _).drew⟩
/-- Has, and what it answers. -/
theorem nep_no (W : World) : (binOp .neq 101 (.pointer none) (.pointer none)).run Try.prog W = .ok (.bool false) W := by kernel_rfl
theorem nep_yes (x : Nat) (W : World) : (binOp .neq 101 (.pointer (some ⟨x, 0, none⟩)) (.pointer none)).run Try.prog W = .ok (.bool true) W := by kernel_rfl
theorem has_nil (h : HKey) (w : World) : Calls Try.prog 83 #[.pointer none, .agg #[.int .i64 h.1, .int .u64 h.2]] w fun e w' => e = .returned (.bool false) ∧ Below w.heap.size w w' := by
  have k1 := fun W => link_nil h W
  have q1 := nep_no
  go_enter Try.func83, Try.ntmps83
  go_wp2_with (go_at_call 85; refine (k1 _).mono ?_; rintro e w' ⟨rfl, hw⟩; rw [hw]; clear hw)
  all_goals go_returns
  all_goals exact ⟨rfl, ((Below.refl _ w).alloc (Nat.le_refl _) _).alloc (by simp) _⟩
theorem has_any (w : World) (B b m e : Nat) (nx pv : Nat → Nat) (ky : Nat → HKey) (N : List Nat) (h : Ls w B b m e nx pv ky N) (k : HKey) :
    Calls Try.prog 83 #[.pointer (some ⟨b, 0, none⟩), .agg #[.int .i64 k.1, .int .u64 k.2]] w fun e' w' => e' = .returned (.bool (decide (k ∈ N.map ky))) ∧ Below w.heap.size w w' := by
  have hb1 := (Below.refl _ w).alloc (Nat.le_refl _) (.cells #[.int .i64 k.1, .int .u64 k.2] 31)
  have h1 := h.alloc (.cells #[.int .i64 k.1, .int .u64 k.2] 31)
  have k1 := link_any _ B b m e nx pv ky N h1 k
  have q1 := nep_no
  have q2 := nep_yes
  go_enter Try.func83, Try.ntmps83
  go_wp2_with (go_at_call 85; refine k1.mono ?_; rintro e1 w1 ⟨v, rfl, hv, hb2⟩; rcases hv with ⟨rfl, hv⟩ | ⟨x, hx, hxk, rfl⟩)
  all_goals go_returns
  · exact ⟨by rw [decide_eq_false hv]; rfl, hb1.trans (hb2.mono (by simp))⟩
  · exact ⟨by rw [decide_eq_true (List.mem_map.2 ⟨x, hx, hxk⟩)]; rfl, hb1.trans (hb2.mono (by simp))⟩
end Go.Proofs.Ythgpbbpmfpfjnaa
