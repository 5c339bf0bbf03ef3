/- Towards the statements of package graph (layer 17): a graph in memory. -/
import Derived.Test.YthgpbbpmfpfjnaaGB
namespace Go.Proofs.Ythgpbbpmfpfjnaa
open Go.ChangeShapes Go.WideShapes Go.ChangeAt Go.RowKit
set_option linter.unusedVariables false
set_option linter.unusedSimpArgs false
set_option maxRecDepth 20000
/-- What a place has: a list, or a tree (tr), of handles, each by a node; its blocks. -/
structure Sp where
  tr : Bool
  L : List FKey
  s : Nat
  l : Nat
  y : Nat
  S : List Nat
def Sp.K (x : Sp) : List HKey := x.L.map Prod.fst
def Sp.foot (x : Sp) : List Nat := x.s :: x.y :: x.S
structure SpAt (w : World) (B : Nat) (x : Sp) : Prop where
  cells : w.heap[x.s]? = some (.cells #[.iface (if x.tr then 91 else 87) (.agg #[.pointer (some ⟨x.l, 0, none⟩)]), .map (some x.y)] 82 (0, 0))
  li : x.tr = false → Li w B x.l x.K x.S
  ti : x.tr = true → T.Ti w B x.l x.K x.S
  by_ : ∃ n F, HM w x.y n F ∧ ∀ h v, F h = some v ↔ ∃ n, (h, n) ∈ x.L ∧ v = .int .i64 n
  sB : B ≤ x.s
  yB : B ≤ x.y
  sn : x.s ∉ x.S
  yn : x.y ∉ x.S
  kd : x.K.Nodup
section
variable {w w' : World} {B : Nat} {x : Sp}
theorem SpAt.keep (h : SpAt w B x) (hk : ∀ k ∈ x.foot, w'.heap[k]? = w.heap[k]?) : SpAt w' B x := by
  obtain ⟨n, F, hF, hF2⟩ := h.by_
  exact ⟨(hk _ (.head _)).trans h.cells, fun e => (h.li e).keep fun k hm => hk k (.tail _ (.tail _ hm)), fun e => (h.ti e).keep fun k hm => hk k (.tail _ (.tail _ hm)), ⟨n, F, hF.keep (hk _ (.tail _ (.head _))), hF2⟩, h.sB, h.yB, h.sn, h.yn, h.kd⟩
theorem SpAt.lt (h : SpAt w B x) : ∀ k ∈ x.foot, B ≤ k ∧ k < w.heap.size := by
  obtain ⟨n, F, hF, hF2⟩ := h.by_
  intro k hk
  rcases List.mem_cons.1 hk with rfl | hk
  · exact ⟨h.sB, heap_lt h.cells⟩
  rcases List.mem_cons.1 hk with rfl | hk
  · exact ⟨h.yB, hF.lt⟩
  · cases e : x.tr with
    | false => exact (h.li e).lt k hk
    | true => exact (h.ti e).lt k hk
theorem SpAt.bel (h : SpAt w B x) (hb : Below w.heap.size w w') : SpAt w' B x := h.keep fun k hk => hb.block k (h.lt k hk).2
theorem SpAt.sy (h : SpAt w B x) : x.s ≠ x.y := by
  obtain ⟨n, F, hF, hF2⟩ := h.by_
  intro e
  have := h.cells
  rw [e] at this
  exact hF.notcells this
theorem SpAt.c0 (h : SpAt w B x) : w.cell? ⟨x.s, 0, none⟩ = some (.iface (if x.tr then 91 else 87) (.agg #[.pointer (some ⟨x.l, 0, none⟩)])) := by rw [cell_of h.cells]; rfl
theorem SpAt.c1 (h : SpAt w B x) : w.cell? ⟨x.s, 1, none⟩ = some (.map (some x.y)) := by rw [cell_of h.cells]; rfl
end
abbrev Zs := PKey → Option Sp
/-- A graph at block g. -/
structure Gr (w : World) (B g m1 m2 N : Nat) (Z : Zs) : Prop where
  cells : w.heap[g]? = some (.cells #[.map (some m1), .map (some m2)] 57 (0, 0))
  gB : B ≤ g
  aB : B ≤ m1
  bB : B ≤ m2
  ab : m1 ≠ m2
  spots : ∃ F, P.HM w m1 N F ∧ ∀ p v, F p = some v ↔ ∃ x, Z p = some x ∧ v = .pointer (some ⟨x.s, 0, none⟩)
  ins : ∃ n G, F.HM w m2 n G ∧ ∀ f v, G f = some v ↔ ∃ p x, Z p = some x ∧ f ∈ x.L ∧ v = pK p
  at_ : ∀ p x, Z p = some x → SpAt w B x
  ne : ∀ p x, Z p = some x → x.L ≠ []
  len : ∀ p x, Z p = some x → x.L.length ≤ N
  ap : ∀ p q x y, Z p = some x → Z q = some y → p ≠ q → ∀ k ∈ x.foot, k ∉ y.foot
  out : ∀ p x, Z p = some x → g ∉ x.foot ∧ m1 ∉ x.foot ∧ m2 ∉ x.foot
/-- A graph's blocks. -/
def Fp (g m1 m2 : Nat) (Z : Zs) : Nat → Prop := fun k => k = g ∨ k = m1 ∨ k = m2 ∨ ∃ p x, Z p = some x ∧ k ∈ x.foot
section
variable {w w' : World} {B g m1 m2 N : Nat} {Z : Zs}
theorem Gr.lt (h : Gr w B g m1 m2 N Z) : ∀ k, Fp g m1 m2 Z k → B ≤ k ∧ k < w.heap.size := by
  obtain ⟨F, hF, _⟩ := h.spots
  obtain ⟨n, G, hG, _⟩ := h.ins
  rintro k (rfl | rfl | rfl | ⟨p, x, hx, hk⟩)
  · exact ⟨h.gB, heap_lt h.cells⟩
  · exact ⟨h.aB, hF.lt⟩
  · exact ⟨h.bB, hG.lt⟩
  · exact (h.at_ p x hx).lt k hk
theorem Gr.keep (h : Gr w B g m1 m2 N Z) (hk : ∀ k, Fp g m1 m2 Z k → w'.heap[k]? = w.heap[k]?) : Gr w' B g m1 m2 N Z := by
  obtain ⟨F, hF, hF2⟩ := h.spots
  obtain ⟨n, G, hG, hG2⟩ := h.ins
  exact ⟨(hk _ (.inl rfl)).trans h.cells, h.gB, h.aB, h.bB, h.ab, ⟨F, hF.keep (hk _ (.inr (.inl rfl))), hF2⟩, ⟨n, G, hG.keep (hk _ (.inr (.inr (.inl rfl)))), hG2⟩, fun p x hx => (h.at_ p x hx).keep fun k hm => hk k (.inr (.inr (.inr ⟨p, x, hx, hm⟩))), h.ne, h.len, h.ap, h.out⟩
theorem Gr.bel (h : Gr w B g m1 m2 N Z) (hb : Below w.heap.size w w') : Gr w' B g m1 m2 N Z := h.keep fun k hk => hb.block k (h.lt k hk).2
theorem Gr.size (h : Gr w B g m1 m2 N Z) : B ≤ w.heap.size := Nat.le_trans h.gB (Nat.le_of_lt (heap_lt h.cells))
theorem Gr.c0 (h : Gr w B g m1 m2 N Z) : w.cell? ⟨g, 0, none⟩ = some (.map (some m1)) := by rw [cell_of h.cells]; rfl
theorem Gr.c1 (h : Gr w B g m1 m2 N Z) : w.cell? ⟨g, 1, none⟩ = some (.map (some m2)) := by rw [cell_of h.cells]; rfl
theorem Gr.mono (h : Gr w B g m1 m2 N Z) {N' : Nat} (e : N ≤ N') : Gr w B g m1 m2 N' Z := by
  obtain ⟨F, hF, hF2⟩ := h.spots
  exact ⟨h.cells, h.gB, h.aB, h.bB, h.ab, ⟨F, hF.mono e, hF2⟩, h.ins, h.at_, h.ne, fun p x hx => Nat.le_trans (h.len p x hx) e, h.ap, h.out⟩
/-- A node is at one place at most. -/
theorem Gr.once (h : Gr w B g m1 m2 N Z) {p q : PKey} {x y : Sp} {f : FKey} (hx : Z p = some x) (hy : Z q = some y) (hfx : f ∈ x.L) (hfy : f ∈ y.L) : p = q := by
  obtain ⟨n, G, hG, hG2⟩ := h.ins
  have a := (hG2 f _).2 ⟨p, x, hx, hfx, rfl⟩
  have b := (hG2 f _).2 ⟨q, y, hy, hfy, rfl⟩
  rw [a] at b
  exact P.hK_inj (Option.some.inj b)
end
/-- The row at a place. -/
theorem grow_any (w : World) (B g m1 m2 N : Nat) (Z : Zs) (h : Gr w B g m1 m2 N Z) (p : PKey) :
    (Z p = none → Calls Try.prog 27 #[.pointer (some ⟨g, 0, none⟩), pK p] w fun e w' => e = .returned none94 ∧ Below w.heap.size w w') ∧ ∀ x, Z p = some x → Calls Try.prog 27 #[.pointer (some ⟨g, 0, none⟩), pK p] w fun e w' => e = .returned (.iface 76 (.pointer (some ⟨x.s, 0, none⟩))) ∧ Below w.heap.size w w' := by
  obtain ⟨F, hF, hF2⟩ := h.spots
  refine ⟨fun e => row_no w g m1 N F p h.c0 hF ?_, fun x hx => row_at w g m1 N x.s F p h.c0 hF ((hF2 _ _).2 ⟨x, hx, rfl⟩)⟩
  cases hv : F p with
  | none => rfl
  | some v =>
    obtain ⟨x, hx, _⟩ := (hF2 p v).1 hv
    rw [e] at hx
    cases hx
end Go.Proofs.Ythgpbbpmfpfjnaa
