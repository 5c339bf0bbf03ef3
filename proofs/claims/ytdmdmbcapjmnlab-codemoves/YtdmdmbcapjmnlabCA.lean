/- Towards the statements of package code (layer 8): a program in memory; contracts of the small functions, for every program and place. -/
import Derived.Test.YtdmdmbcapjmnlabKB
namespace Go.Proofs.Ytdmdmbcapjmnlab
open Go.ChangeShapes Go.WideShapes Go.ChangeAt Go.RowKit
set_option linter.unusedVariables false
set_option linter.unusedSimpArgs false
set_option maxRecDepth 20000

/-- A slot. -/
structure Sl where
  o : Int
  d : Int
  s : Int
  f : Int
  i : Int
deriving DecidableEq
def Sl.ok (x : Sl) : Prop := (0 ≤ x.o ∧ x.o ≤ 255) ∧ (0 ≤ x.d ∧ x.d ≤ 255) ∧ (0 ≤ x.s ∧ x.s ≤ 255) ∧ (-32768 ≤ x.f ∧ x.f ≤ 32767) ∧ (-2147483648 ≤ x.i ∧ x.i ≤ 2147483647)
def Sl.k (x : Sl) : Int := kV x.o x.d x.s x.f x.i
def Sl.v (x : Sl) : Value := ins x.o x.d x.s x.f x.i
/-- A slot at a place of memory. -/
def Cell5 (w : World) (b k : Nat) (x : Sl) : Prop := w.cell? ⟨b, k, none⟩ = some (.int .u8 x.o) ∧ w.cell? ⟨b, k + 1, none⟩ = some (.int .u8 x.d) ∧ w.cell? ⟨b, k + 2, none⟩ = some (.int .u8 x.s) ∧ w.cell? ⟨b, k + 3, none⟩ = some (.int .i16 x.f) ∧ w.cell? ⟨b, k + 4, none⟩ = some (.int .i32 x.i)
/-- The blocks of S are as they were. -/
def Keep (S : Nat → Prop) (w w' : World) : Prop := ∀ b, S b → w'.heap[b]? = w.heap[b]?
theorem Keep.trans {S : Nat → Prop} {a b c : World} (h : Keep S a b) (k : Keep S b c) : Keep S a c := fun i hi => (k i hi).trans (h i hi)
theorem Keep.refl (S : Nat → Prop) (w : World) : Keep S w w := fun _ _ => rfl
theorem Keep.cell {S : Nat → Prop} {w w' : World} (h : Keep S w w') {p : Addr} (hp : S p.block) : w'.cell? p = w.cell? p := World.cell?_of_block (w := w) (h p.block hp)
theorem Keep.of {S : Nat → Prop} {n : Nat} {w w' : World} (h : Below n w w') (hS : ∀ b, S b → b < n) : Keep S w w' := fun b hb => h.block b (hS b hb)
theorem Cell5.keep {S : Nat → Prop} {w w' : World} {b k : Nat} {x : Sl} (h : Cell5 w b k x) (hb0 : S b) (hb : Keep S w w') : Cell5 w' b k x :=
  ⟨(hb.cell (p := ⟨b, _, none⟩) hb0).trans h.1, (hb.cell (p := ⟨b, _, none⟩) hb0).trans h.2.1, (hb.cell (p := ⟨b, _, none⟩) hb0).trans h.2.2.1, (hb.cell (p := ⟨b, _, none⟩) hb0).trans h.2.2.2.1, (hb.cell (p := ⟨b, _, none⟩) hb0).trans h.2.2.2.2⟩
theorem Cell5.below {n₀ : Nat} {w w' : World} {b k : Nat} {x : Sl} (h : Cell5 w b k x) (hb0 : b < n₀) (hb : Below n₀ w w') : Cell5 w' b k x := h.keep (S := (· < n₀)) hb0 (.of hb fun _ h => h)
/-- The slice sv has the slots L, in a block of S. -/
structure Slots (S : Nat → Prop) (w : World) (sv : Value) (L : List Sl) : Prop where
  ok : ∀ x ∈ L, x.ok
  len : L.length ≤ 4096
  at' : ((∃ p cap, sv = .slice p 0 cap) ∧ L = []) ∨ ∃ b off cap, sv = .slice (some ⟨b, off, none⟩) L.length cap ∧ S b ∧ b < w.heap.size ∧ ∀ (j : Nat) (x : Sl), L[j]? = some x → Cell5 w b (off + j * 5) x
theorem Slots.keep {S : Nat → Prop} {w w' : World} {sv : Value} {L : List Sl} (h : Slots S w sv L) (hb : Keep S w w') (hs : w.heap.size ≤ w'.heap.size) : Slots S w' sv L := by
  refine ⟨h.ok, h.len, ?_⟩
  rcases h.at' with e | ⟨b, off, cap, e, hb0, hb1, hc⟩
  · exact .inl e
  · exact .inr ⟨b, off, cap, e, hb0, Nat.lt_of_lt_of_le hb1 hs, fun j x hx => (hc j x hx).keep hb0 hb⟩
theorem Slots.gr {S : Nat → Prop} {w w' : World} {sv : Value} {L : List Sl} (h : Slots S w sv L) (hb : Below w.heap.size w w') : Slots S w' sv L := by
  refine ⟨h.ok, h.len, ?_⟩
  rcases h.at' with e | ⟨b, off, cap, e, hb0, hb1, hc⟩
  · exact .inl e
  · exact .inr ⟨b, off, cap, e, hb0, Nat.lt_of_lt_of_le hb1 hb.size, fun j x hx => (hc j x hx).below hb1 hb⟩
theorem Slots.mono {S S' : Nat → Prop} {w : World} {sv : Value} {L : List Sl} (h : Slots S w sv L) (hn : ∀ b, S b → S' b) : Slots S' w sv L := by
  refine ⟨h.ok, h.len, ?_⟩
  rcases h.at' with e | ⟨b, off, cap, e, hb0, hb1, hc⟩
  · exact .inl e
  · exact .inr ⟨b, off, cap, e, hn b hb0, hb1, hc⟩
/-- Below its own world's size. -/
theorem Slots.here {S : Nat → Prop} {w : World} {sv : Value} {L : List Sl} (h : Slots S w sv L) : Slots (· < w.heap.size) w sv L := by
  refine ⟨h.ok, h.len, ?_⟩
  rcases h.at' with e | ⟨b, off, cap, e, hb0, hb1, hc⟩
  · exact .inl e
  · exact .inr ⟨b, off, cap, e, hb1, hb1, hc⟩
theorem Slots.shape {n₀ : Nat → Prop} {w : World} {sv : Value} {L : List Sl} (h : Slots n₀ w sv L) : ∃ p cap, sv = .slice p L.length cap := by
  rcases h.at' with ⟨⟨p, cap, e⟩, e2⟩ | ⟨b, off, cap, e, _⟩
  · exact ⟨p, cap, by rw [e, e2]; rfl⟩
  · exact ⟨_, _, e⟩
/-- A place that is there. -/
theorem Slots.get {n₀ : Nat → Prop} {w : World} {sv : Value} {L : List Sl} (h : Slots n₀ w sv L) {at_ : Int} {x : Sl} (h0 : 0 ≤ at_) (hx : L[at_.toNat]? = some x) : ∃ b off cap, sv = .slice (some ⟨b, off, none⟩) L.length cap ∧ n₀ b ∧ Cell5 w b (off + at_.toNat * 5) x ∧ x.ok ∧ at_ < L.length := by
  have hl : at_.toNat < L.length := (List.getElem?_eq_some_iff.1 hx).1
  rcases h.at' with ⟨_, e2⟩ | ⟨b, off, cap, e, hb0, hb1, hc⟩
  · rw [e2] at hl; simp at hl
  · exact ⟨b, off, cap, e, hb0, hc _ _ hx, h.ok x (List.mem_of_getElem? hx), by omega⟩
/-- The slot there, if there is one. -/
def slotAt (L : List Sl) (at_ : Int) : Option Sl := if 0 ≤ at_ then L[at_.toNat]? else none
theorem slotAt_some {L : List Sl} {at_ : Int} {x : Sl} (h : slotAt L at_ = some x) : 0 ≤ at_ ∧ L[at_.toNat]? = some x := by
  unfold slotAt at h; split at h
  · exact ⟨by assumption, h⟩
  · cases h
theorem slotAt_none {L : List Sl} {at_ : Int} (h : slotAt L at_ = none) : ¬ (0 ≤ at_ ∧ at_ < L.length) := by
  unfold slotAt at h; split at h
  · rw [List.getElem?_eq_none_iff] at h; omega
  · omega
def thereB (L : List Sl) (at_ : Int) : Bool := decide (0 ≤ at_) && decide (at_ < L.length)
theorem thereB_iff (L : List Sl) (at_ : Int) : thereB L at_ = (slotAt L at_).isSome := by
  cases e : slotAt L at_ with
  | none => have := slotAt_none e; simp [thereB]; omega
  | some x => obtain ⟨h0, h1⟩ := slotAt_some e; have := (List.getElem?_eq_some_iff.1 h1).1; simp [thereB]; omega
theorem isThere_any (p : Option Addr) (L : List Sl) (hl : L.length ≤ 4096) (cap : Nat) (at_ : Int) (w : World) : Calls Try.prog 39 #[.slice p L.length cap, .int .i64 at_] w fun e w' => e = .returned (.bool (thereB L at_)) ∧ w' = w := by
  by_cases h : 0 ≤ at_
  · have h1 : decide (0 ≤ at_) = true := by simp [h]
    go_enter Try.func39, Try.ntmps39
    go_wp2
    go_ret
    exact ⟨by simp [thereB, h], rfl⟩
  · have h1 : decide (0 ≤ at_) = false := by simp [h]
    go_enter Try.func39, Try.ntmps39
    go_wp2
    go_ret
    exact ⟨by simp [thereB]; omega, rfl⟩
def kindM (L : List Sl) (at_ : Int) : Int := match slotAt L at_ with
  | some x => x.k
  | none => 0
theorem kindAt_any (n₀ : Nat → Prop) (sv : Value) (L : List Sl) (at_ : Int) (w : World) (hL : Slots n₀ w sv L) : Calls Try.prog 13 #[sv, .int .i64 at_] w fun e w' => e = .returned (.int .u8 (kindM L at_)) ∧ Gr w w' := by
  cases e : slotAt L at_ with
  | none =>
    have hT : thereB L at_ = false := by rw [thereB_iff, e]; rfl
    obtain ⟨p, cap, rfl⟩ := hL.shape
    have c1 := isThere_any p L hL.len cap at_ w
    rw [hT] at c1
    rw [kindM, e]
    go_enter Try.func13, Try.ntmps13
    go_wp2_with (go_at_call 39; refine c1.mono ?_; rintro e w' ⟨rfl, rfl⟩)
    go_ret
    exact ⟨rfl, Gr.refl _⟩
  | some x =>
    have hT : thereB L at_ = true := by rw [thereB_iff, e]; rfl
    obtain ⟨h0, h1⟩ := slotAt_some e
    obtain ⟨b, off, cap, rfl, hb, ⟨c0, c1, c2, c3, c4⟩, ⟨⟨o0, o1⟩, ⟨d0, d1⟩, ⟨s0, s1⟩, _⟩, hlt⟩ := hL.get h0 h1
    have k1 := isThere_any (some ⟨b, off, none⟩) L hL.len cap at_ w
    rw [hT] at k1
    have k2 := kind_any x.o x.d x.s x.f x.i o0 o1 d0 d1 s0 s1 w
    have hlen := hL.len
    rw [kindM, e]
    go_enter Try.func13, Try.ntmps13
    go_wp2_with first | (go_at_call 39; refine k1.mono ?_; rintro e w' ⟨rfl, rfl⟩) | (go_at_call 40; refine k2.mono ?_; rintro e w' ⟨rfl, hg⟩)
    go_ret
    exact ⟨rfl, hg⟩
end Go.Proofs.Ytdmdmbcapjmnlab
