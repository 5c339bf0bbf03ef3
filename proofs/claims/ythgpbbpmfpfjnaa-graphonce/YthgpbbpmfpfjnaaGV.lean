/- Towards the statements of package graph (layer 17): what a call does at its own place alone. -/
import Derived.Test.YthgpbbpmfpfjnaaGU
namespace Go.Proofs.Ythgpbbpmfpfjnaa
open Go.ChangeShapes Go.WideShapes Go.ChangeAt Go.RowKit
set_option linter.unusedVariables false
set_option linter.unusedSimpArgs false
abbrev At1 := Option (Bool × List FKey)
theorem and31 (s : Int) : ∃ n : Nat, n ≤ 31 ∧ bits .and .i64 s 31 = n := by
  refine ⟨(BitVec.ofInt 64 s &&& BitVec.ofInt 64 31).toNat, ?_, ?_⟩
  · rw [BitVec.toNat_and]
    exact Nat.le_trans Nat.and_le_right (by decide)
  · have h : (BitVec.ofInt 64 s &&& BitVec.ofInt 64 31).toNat ≤ 31 := by
      rw [BitVec.toNat_and]
      exact Nat.le_trans Nat.and_le_right (by decide)
    show IntKind.i64.wrap ((BitVec.ofInt 64 s &&& BitVec.ofInt 64 31).toNat : Int) = _
    exact IntWalk.i64_in _ (by omega)
def hasO (o : At1) (f : FKey) : Prop := ∃ y, o = some y ∧ f ∈ y.2
open Classical in
noncomputable def pushO (o : At1) (f : FKey) (q : Bool) : Int × At1 :=
  if hasO o f then (7, o) else match o with
    | none => (0, some (false, [f]))
    | some (tr, L) => if tr = true ∨ f.1 ∈ L.map Prod.fst then (3, o) else (0, some (false, if q then f :: L else L ++ [f]))
open Classical in
noncomputable def insO (o : At1) (i : Int) (f : FKey) : Int × At1 :=
  if hasO o f then (7, o) else match o with
    | none => if i = 0 then (0, some (true, [f])) else (2, o)
    | some (tr, L) => if tr = false ∨ f.1 ∈ L.map Prod.fst then (3, o) else if i < 0 ∨ (L.length : Int) < i then (2, o) else (0, some (true, L.take i.toNat ++ f :: L.drop i.toNat))
def cutO (o : At1) (f : FKey) : At1 := match o with
  | none => none
  | some (tr, L) => if L.erase f = [] then none else some (tr, L.erase f)
def peekO (o : At1) (q : Bool) : Option FKey := match o with
  | some (false, L) => endF L q
  | _ => none
def popO (o : At1) (q : Bool) : At1 := match peekO o q with
  | some f => cutO o f
  | none => o
open Classical in
noncomputable def remO (o : At1) (f : FKey) : Bool × At1 := if hasO o f then (true, cutO o f) else (false, o)
theorem updY_id (Y : Ys) (p : PKey) : updY Y p (Y p) = Y := by
  funext q
  unfold updY
  split
  · rename_i e; rw [e]
  · rfl
section
variable {Y : Ys} {p : PKey} {f : FKey} (h : There Y f ↔ hasO (Y p) f)
include h
theorem push_loc (q : Bool) : pushY Y p f q = ((pushO (Y p) f q).1, updY Y p (pushO (Y p) f q).2) := by
  unfold pushY pushO
  by_cases e : There Y f
  · rw [if_pos e, if_pos (h.1 e), updY_id]
  · rw [if_neg e, if_neg (fun q => e (h.2 q))]
    cases hy : Y p with
    | none => rfl
    | some y =>
      obtain ⟨tr, L⟩ := y
      simp only
      split
      · rw [← hy, updY_id]
      · rfl
theorem ins_loc (i : Int) : insY Y p i f = ((insO (Y p) i f).1, updY Y p (insO (Y p) i f).2) := by
  unfold insY insO
  by_cases e : There Y f
  · rw [if_pos e, if_pos (h.1 e), updY_id]
  · rw [if_neg e, if_neg (fun q => e (h.2 q))]
    cases hy : Y p with
    | none =>
      simp only
      split
      · rfl
      · rw [← hy, updY_id]
    | some y =>
      obtain ⟨tr, L⟩ := y
      simp only
      split
      · rw [← hy, updY_id]
      · split
        · rw [← hy, updY_id]
        · rfl
end
theorem cut_loc (Y : Ys) (p : PKey) (f : FKey) : cutY Y p f = updY Y p (cutO (Y p) f) := by
  unfold cutY cutO
  cases hy : Y p with
  | none =>
    have := updY_id Y p
    rw [hy] at this
    exact this.symm
  | some y => rfl
theorem peek_loc (Y : Ys) (p : PKey) (q : Bool) : peekY Y p q = peekO (Y p) q := rfl
theorem pop_loc (Y : Ys) (p : PKey) (q : Bool) : popY Y p q = updY Y p (popO (Y p) q) := by
  unfold popY popO
  rw [peek_loc]
  cases peekO (Y p) q with
  | none => exact (updY_id Y p).symm
  | some f => exact cut_loc Y p f
theorem rem_loc (Y : Ys) (p : PKey) (f : FKey) : remY Y p f = ((remO (Y p) f).1, updY Y p (remO (Y p) f).2) := by
  unfold remY remO
  by_cases e : hasO (Y p) f
  · rw [if_pos (show ∃ y, Y p = some y ∧ f ∈ y.2 from e), if_pos e, cut_loc]
  · rw [if_neg (show ¬ ∃ y, Y p = some y ∧ f ∈ y.2 from e), if_neg e, updY_id]
/-- All handles of a place have that number. -/
def GenO (o : At1) (n : Nat) : Prop := ∀ y, o = some y → ∀ f ∈ y.2, f.1.2 = n
theorem gen_push {o : At1} {n : Nat} (h : GenO o n) {f : FKey} (hf : f.1.2 = n) (q : Bool) : GenO (pushO o f q).2 n := by
  unfold pushO
  split
  · exact h
  · cases o with
    | none => intro y e g hg; cases e; simp at hg; rw [hg]; exact hf
    | some y =>
      obtain ⟨tr, L⟩ := y
      simp only
      split
      · exact h
      · intro y e g hg
        cases e
        rcases (mem_push L f g q).1 hg with e | e
        · rw [e]; exact hf
        · exact h _ rfl g e
theorem gen_ins {o : At1} {n : Nat} (h : GenO o n) {f : FKey} (hf : f.1.2 = n) (i : Int) : GenO (insO o i f).2 n := by
  unfold insO
  split
  · exact h
  · cases o with
    | none =>
      simp only
      split
      · intro y e g hg; cases e; simp at hg; rw [hg]; exact hf
      · exact h
    | some y =>
      obtain ⟨tr, L⟩ := y
      simp only
      split
      · exact h
      · split
        · exact h
        · intro y e g hg
          cases e
          rcases (mem_ins L f g _).1 hg with e | e
          · rw [e]; exact hf
          · exact h _ rfl g e
theorem gen_cut {o : At1} {n : Nat} (h : GenO o n) (f : FKey) : GenO (cutO o f) n := by
  cases o with
  | none => intro y e; cases e
  | some y =>
    obtain ⟨tr, L⟩ := y
    unfold cutO
    simp only
    intro y e g hg
    split at e
    · cases e
    · cases e; exact h _ rfl g (List.mem_of_mem_erase hg)
theorem gen_pop {o : At1} {n : Nat} (h : GenO o n) (q : Bool) : GenO (popO o q) n := by
  unfold popO
  split
  · exact gen_cut h _
  · exact h
theorem gen_rem {o : At1} {n : Nat} (h : GenO o n) (f : FKey) : GenO (remO o f).2 n := by
  unfold remO
  split
  · exact gen_cut h _
  · exact h
abbrev pA : PKey := (1, 0, 0)
abbrev qA : PKey := (2, 0, 0)
/-- Two places; one. -/
def two (o o2 : At1) : Ys := fun r => if r = pA then o else if r = qA then o2 else none
def one1Y (o : At1) : Ys := fun r => if r = pA then o else none
theorem two_p (o o2 : At1) : two o o2 pA = o := if_pos rfl
theorem two_q (o o2 : At1) : two o o2 qA = o2 := by unfold two; rw [if_neg (by decide), if_pos rfl]
theorem one_p (o : At1) : one1Y o pA = o := if_pos rfl
theorem two_up (o o2 o' : At1) : updY (two o o2) pA o' = two o' o2 := by
  funext r; unfold updY two; split <;> rfl
theorem two_uq (o o2 o' : At1) : updY (two o o2) qA o' = two o o' := by
  funext r; unfold updY two
  by_cases e : r = qA
  · rw [if_pos e, if_pos e, if_neg (by rw [e]; decide)]
  · rw [if_neg e, if_neg e, if_neg e]
theorem one_up (o o' : At1) : updY (one1Y o) pA o' = one1Y o' := by
  funext r; unfold updY one1Y; split <;> rfl
theorem two_none : two none none = fun _ => none := by funext r; unfold two; split <;> simp
theorem one_none : one1Y none = fun _ => none := by funext r; unfold one1Y; split <;> simp
theorem there_p {o o2 : At1} (h2 : GenO o2 2) {f : FKey} (hf : f.1.2 = 1) : There (two o o2) f ↔ hasO (two o o2 pA) f := by
  rw [two_p]
  constructor
  · rintro ⟨r, y, e, hy⟩
    unfold two at e
    split at e
    · exact ⟨y, e, hy⟩
    · split at e
      · have := h2 y e f hy; omega
      · cases e
  · rintro ⟨y, e, hy⟩; exact ⟨pA, y, by rw [two_p]; exact e, hy⟩
theorem there_q {o o2 : At1} (h1 : GenO o 1) {f : FKey} (hf : f.1.2 = 2) : There (two o o2) f ↔ hasO (two o o2 qA) f := by
  rw [two_q]
  constructor
  · rintro ⟨r, y, e, hy⟩
    unfold two at e
    split at e
    · have := h1 y e f hy; omega
    · split at e
      · exact ⟨y, e, hy⟩
      · cases e
  · rintro ⟨y, e, hy⟩; exact ⟨qA, y, by rw [two_q]; exact e, hy⟩
theorem there_one {o : At1} {f : FKey} : There (one1Y o) f ↔ hasO (one1Y o pA) f := by
  rw [one_p]
  constructor
  · rintro ⟨r, y, e, hy⟩
    unfold one1Y at e
    split at e
    · exact ⟨y, e, hy⟩
    · cases e
  · rintro ⟨y, e, hy⟩; exact ⟨pA, y, by rw [one_p]; exact e, hy⟩
/-- Two graphs beside one another: what is at one's place is what is at the other one's. -/
structure Ap (w : World) (B g a N : Nat) (o o2 : At1) (A C : Nat → Prop) : Prop where
  g1 : Gi w B g N (two o o2) A
  g2 : Gi w B a N (one1Y o) C
  dj : ∀ k, A k → ¬ C k
  h1 : GenO o 1
  h2 : GenO o2 2
section
variable {w w' : World} {B g a N : Nat} {o o2 : At1} {A C : Nat → Prop}
theorem Ap.bel (h : Ap w B g a N o o2 A C) (hb : Below w.heap.size w w') : Ap w' B g a N o o2 A C := ⟨h.g1.bel hb, h.g2.bel hb, h.dj, h.h1, h.h2⟩
theorem Ap.mono (h : Ap w B g a N o o2 A C) {N' : Nat} (e : N ≤ N') : Ap w B g a N' o o2 A C := ⟨h.g1.mono e, h.g2.mono e, h.dj, h.h1, h.h2⟩
/-- A call of the first one at its other place. -/
theorem Ap.other (h : Ap w B g a N o o2 A C) {N' : Nat} (hN : N ≤ N') {o2' : At1} {A' : Nat → Prop} (hg : Gi w' B g N' (two o o2') A') (hF : FG B A A' w w') (h2 : GenO o2' 2) : Ap w' B g a N' o o2' A' C :=
  ⟨hg, (h.g2.keep fun k hk => hF.keep k (h.g2.lt k hk).2 (fun q => h.dj k q hk)).mono hN, fun k hk hc => by
    rcases hF.sub k hk with q | q
    · exact h.dj k q hc
    · have := (h.g2.lt k hc).2; omega, h.h1, h2⟩
/-- The same call of both. -/
theorem Ap.both (h : Ap w B g a N o o2 A C) {w1 : World} {N' : Nat} {o' : At1} {A' C' : Nat → Prop} (hg : Gi w1 B g N' (two o' o2) A') (hF : FG B A A' w w1) (hg2 : Gi w' B a N' (one1Y o') C') (hF2 : FG B C C' w1 w') (h1 : GenO o' 1) : Ap w' B g a N' o' o2 A' C' := by
  have hd : ∀ k, A' k → ¬ C k := fun k hk hc => by
    rcases hF.sub k hk with q | q
    · exact h.dj k q hc
    · have := (h.g2.lt k hc).2; omega
  refine ⟨hg.keep fun k hk => hF2.keep k (hg.lt k hk).2 (fun q => hd k hk q), hg2, fun k hk hc => ?_, h1, h.h2⟩
  rcases hF2.sub k hc with q | q
  · exact hd k hk q
  · have := (hg.lt k hk).2; omega
end
theorem lenO_eq (o o2 : At1) : lenY (two o o2) pA = lenY (one1Y o) pA := by unfold lenY; rw [two_p, one_p]
theorem kindO_eq (o o2 : At1) : kindY (two o o2) pA = kindY (one1Y o) pA := by unfold kindY; rw [two_p, one_p]
theorem atO_eq (o o2 : At1) (i : Int) : atY (two o o2) pA i = atY (one1Y o) pA i := by unfold atY; rw [two_p, one_p]
theorem SpAt.base {w : World} {B B' : Nat} {x : Sp} (h : SpAt w B x) (hB : B' ≤ B) : SpAt w B' x :=
  ⟨h.cells, fun e => (h.li e).base hB, fun e => (h.ti e).base hB, h.by_, Nat.le_trans hB h.sB, Nat.le_trans hB h.yB, h.sn, h.yn, h.kd⟩
theorem Gi.base {w : World} {B B' g N : Nat} {Y : Ys} {A : Nat → Prop} (h : Gi w B g N Y A) (hB : B' ≤ B) : Gi w B' g N Y A := by
  obtain ⟨m1, m2, Z, h, rfl, rfl⟩ := h
  exact ⟨m1, m2, Z, ⟨h.cells, Nat.le_trans hB h.gB, Nat.le_trans hB h.aB, Nat.le_trans hB h.bB, h.ab, h.spots, h.ins, fun p x hx => (h.at_ p x hx).base hB, h.ne, h.len, h.ap, h.out⟩, rfl, rfl⟩
structure BlBy (w : World) where
  wo : World
  bl : Below w.heap.size w wo
theorem wp_region_bl {P : Program} {id : Nat} {Q : Exit → Act → World → Prop} {a : Act} {w : World} {l : List Oper} (hm : P.follows .mixedOrders = true) (hB : Region.lexB .any l.toArray = true)
    (h : wpQuiet P l.toArray (fun w' => ∃ p : BlBy w, w' = p.wo) (fun a' => ∀ w', (∃ p : BlBy w, w' = p.wo) → Q .normal a' w') l a) : (Code.region id l.toArray true).wp P Q a w :=
  wp_region_quiet (C := fun w' => ∃ p : BlBy w, w' = p.wo) hm hB ⟨⟨w.drew, (Below.refl _ w).drew⟩, rfl⟩ (by simpa using h)
theorem calls_bl {P : Program} {f : FuncId} {args : Array Value} {w : World} {p : BlBy w} {v : Value} (h : Calls P f args p.wo fun e w' => e = .returned v ∧ Below p.wo.heap.size p.wo w') :
    Calls P f args p.wo fun e w' => e = .returned v ∧ ∃ q : BlBy w, w' = q.wo :=
  h.mono fun _ w' ⟨he, hg⟩ => ⟨he, ⟨w', p.bl.trans (hg.mono p.bl.size)⟩, rfl⟩
theorem Gi.len {w : World} {B g N : Nat} {Y : Ys} {A : Nat → Prop} (h : Gi w B g N Y A) (p : PKey) : lenY Y p ≤ N := by
  obtain ⟨m1, m2, Z, h, rfl, rfl⟩ := h
  rw [← lenZ_eq]
  unfold lenZ
  cases hz : Z p with
  | none => exact Nat.zero_le _
  | some x => exact h.len p x hz
end Go.Proofs.Ythgpbbpmfpfjnaa
