/- Towards the statements of package tnum (layer 3): a block of memory that holds a set, read and written in a world of which else only little is known: for loops; ranges of the program. -/
import Derived.Test.YtekenpgagfmgkaaGreatTLen
import Derived.Test.YtekenpgagfmgkaaGreatTRef
namespace Go.Proofs.YtekenpgagfmgkaaGreat.Tn
open Go.ChangeShapes Go.WideShapes Go.ChangeAt Go.RowKit
set_option linter.unusedVariables false
set_option maxRecDepth 20000

/-- Block b holds the set with value v and mask m. -/
def At (w : World) (b : Nat) (v m : BitVec 64) : Prop := w.heap[b]? = some (.cells #[.int .u64 (iv v), .int .u64 (iv m)] 24)
section
variable {w w' : World} {b : Nat} {v m : BitVec 64}
theorem At.c0 (h : At w b v m) : w.cell? ⟨b, 0, none⟩ = some (.int .u64 (iv v)) := by simp [World.cell?, show w.heap[b]? = _ from h]
theorem At.c1 (h : At w b v m) : w.cell? ⟨b, 1, none⟩ = some (.int .u64 (iv m)) := by simp [World.cell?, show w.heap[b]? = _ from h]
theorem At.f0 (h : At w b v m) (o : Nat) : w.frozen? ⟨b, o, none⟩ = false := by simp [World.frozen?, show w.heap[b]? = _ from h]
theorem At.lt (h : At w b v m) : b < w.heap.size := (Array.getElem?_eq_some_iff.1 h).1
theorem At.gr (h : At w b v m) (g : Gr w w') : At w' b v m := (g.below.block b h.lt).trans h
theorem At.alloc (h : At w b v m) (o : Obj) : At (w.alloc o) b v m := (Below.heap_alloc w o b h.lt).trans h
theorem At.drew (h : At w b v m) : At w.drew b v m := h
theorem At.new (w : World) (v m : BitVec 64) : At (w.alloc (.cells #[.int .u64 (iv v), .int .u64 (iv m)] 24)) w.heap.size v m := by
  show (w.heap.push _)[w.heap.size]? = _
  simp
theorem At.newb (w : World) {b : Nat} (hb : b = w.heap.size) (v m : BitVec 64) : At (w.alloc (.cells #[.int .u64 (iv v), .int .u64 (iv m)] 24)) b v m := by
  subst hb
  exact At.new w v m
theorem At.newz (w : World) {b : Nat} (hb : b = w.heap.size) : At (w.alloc (.cells #[.int .u64 0, .int .u64 0] 24)) b 0#64 0#64 := by
  subst hb
  exact At.new w 0#64 0#64
theorem At.other (h : At w b v m) {b' o : Nat} (hb : b ≠ b') (u : Value) : At (w.setCell ⟨b', o, none⟩ u) b v m := (Below.heap_setCell w ⟨b', o, none⟩ u b hb).trans h
theorem At.set (h : At w b v m) (v' m' : BitVec 64) : At ((w.setCell ⟨b, 0, none⟩ (.int .u64 (iv v'))).setCell ⟨b, 1, none⟩ (.int .u64 (iv m'))) b v' m' := by
  obtain ⟨hlt, hk⟩ := Array.getElem?_eq_some_iff.1 h
  have e1 : (w.setCell ⟨b, 0, none⟩ (.int .u64 (iv v'))).heap[b]? = some (.cells #[.int .u64 (iv v'), .int .u64 (iv m)] 24) := by
    show (w.heap.modify b _)[b]? = _
    rw [Array.getElem?_eq_getElem (by rw [Array.size_modify]; exact hlt), Array.getElem_modify_self, hk]
    rfl
  obtain ⟨hlt', hk'⟩ := Array.getElem?_eq_some_iff.1 e1
  show ((w.setCell ⟨b, 0, none⟩ (.int .u64 (iv v'))).heap.modify b _)[b]? = _
  rw [Array.getElem?_eq_getElem (by rw [Array.size_modify]; exact hlt'), Array.getElem_modify_self, hk']
  rfl
end
theorem frozen_set (w : World) (a p : Addr) (u : Value) : (w.setCell a u).frozen? p = w.frozen? p := by
  by_cases h : p.block = a.block
  · simp only [World.frozen?, World.setCell, Array.getElem?_modify]
    rw [if_pos h.symm]
    cases w.heap[p.block]? with
    | none => rfl
    | some o => cases o <;> rfl
  · exact World.frozen?_of_block (Below.heap_setCell w a u p.block h)
theorem Gr.set {w W : World} (h : Gr w W) {b o : Nat} (ha : w.heap.size ≤ b) (u : Value) : Gr w (W.setCell ⟨b, o, none⟩ u) :=
  have hb : Below w.heap.size w (W.setCell ⟨b, o, none⟩ u) := h.below.setCell ha u
  ⟨hb, hb.frame _, fun p => (frozen_set W _ p u).trans (h.grown.2.1 p), hb.size⟩
theorem Gr.alloc {w W : World} (h : Gr w W) (c : Array Value) (t : TypeId) : Gr w (W.alloc (.cells c t)) :=
  h.trans ⟨by go_grown, by go_grown⟩
theorem Gr.drew {w W : World} (h : Gr w W) : Gr w W.drew := h.trans ⟨by go_grown, by go_grown⟩

theorem len_le (x : BitVec 64) : lenN x.toNat ≤ 64 := by
  unfold lenN
  split
  · omega
  · rename_i h
    have := (Nat.log2_lt h).2 x.isLt
    omega
theorem range_all (lo hi : BitVec 64) (h : decide (hi < lo) = true) (w : World) : Calls Tryz.prog 91 #[.int .u64 (iv lo), .int .u64 (iv hi)] w fun e w' => e = .returned (.agg #[.int .u64 (iv 0#64), .int .u64 (iv (1#64 <<< 64 - 1#64))]) ∧ Gr w w' := by
  have r0 := @iv_lt
  go_enter Tryz.func91, Tryz.ntmps91
  go_wp2_with (first
    | (go_at_call 153; refine (lowest_any 64 _).mono ?_; rintro e w' ⟨rfl, rfl⟩))
  go_returns
  exact ⟨rfl, by go_grown, by go_grown⟩
def rangeM (lo hi : BitVec 64) : BitVec 64 := 1#64 <<< lenN (lo ^^^ hi).toNat - 1#64
theorem range_in (lo hi : BitVec 64) (h : decide (hi < lo) = false) (w : World) : Calls Tryz.prog 91 #[.int .u64 (iv lo), .int .u64 (iv hi)] w fun e w' => e = .returned (.agg #[.int .u64 (iv (lo &&& ~~~(rangeM lo hi))), .int .u64 (iv (rangeM lo hi))]) ∧ Gr w w' := by
  have r0 := @iv_lt
  have r1 := @iv_xor
  have r2 := len_le (lo ^^^ hi)
  have hl := len_any (lo ^^^ hi)
  unfold rangeM
  generalize lenN (lo ^^^ hi).toNat = n at *
  have hl' : Hid _ := hl
  clear hl
  go_enter Tryz.func91, Tryz.ntmps91
  go_wp2_with (first
    | (go_at_call 174; refine (hl'.out _).mono ?_; rintro e w' ⟨rfl, rfl⟩)
    | (go_at_call 153; refine (lowest_any _ _).mono ?_; rintro e w' ⟨rfl, rfl⟩)
    | (go_at_call 116; refine (known_any _ _ _).mono ?_; rintro e w' ⟨rfl, rfl⟩))
  go_returns
  exact ⟨rfl, by go_grown, by go_grown⟩
end Go.Proofs.YtekenpgagfmgkaaGreat.Tn
