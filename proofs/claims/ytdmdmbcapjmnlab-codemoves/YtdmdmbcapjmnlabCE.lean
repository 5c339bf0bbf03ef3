/- Towards the statements of package code (layer 8): what the checks learn, in memory; beginnings, an iterator. -/
import Derived.Test.YtdmdmbcapjmnlabCD
namespace Go.Proofs.Ytdmdmbcapjmnlab
open Go.ChangeShapes Go.WideShapes Go.ChangeAt
open Go.RowKit Go.Shelf
set_option linter.unusedVariables false
set_option linter.unusedSimpArgs false
set_option maxRecDepth 20000
attribute [local go_sem] Oper.semAt_some

/-- The beginnings from a on, below b. -/
def begL (Bg : List Bool) (a b : Nat) : List Int := ((List.range' a (b - a)).filter fun k => Bg[k]?.getD false).map Int.ofNat
theorem begL_nil (Bg : List Bool) (a : Nat) : begL Bg a a = [] := by simp [begL]
theorem begL_succ (Bg : List Bool) {a k : Nat} (h : a ≤ k) : begL Bg a (k + 1) = begL Bg a k ++ (if Bg[k]?.getD false then [(k : Int)] else []) := by
  have e : k + 1 - a = (k - a) + 1 := by omega
  rw [begL, begL, e, List.range'_concat, List.filter_append, List.map_append]
  congr 1
  rw [show a + 1 * (k - a) = k by omega]
  by_cases hb : Bg[k]?.getD false = true
  · simp [hb]
  · simp [hb]
theorem begL_len (Bg : List Bool) (a b : Nat) : (begL Bg a b).length ≤ b - a := by
  rw [begL, List.length_map]
  exact Nat.le_trans (List.length_filter_le _ _) (by simp)
theorem begL_pre (Bg : List Bool) {a k b : Nat} (hk : a ≤ k) (hb : k ≤ b) : begL Bg a k <+: begL Bg a b := by
  induction b with
  | zero => obtain rfl : k = 0 := by omega
            exact List.prefix_refl _
  | succ b ih =>
    by_cases h : k = b + 1
    · rw [h]; exact List.prefix_refl _
    · exact (ih (by omega)).trans ⟨_, (begL_succ Bg (by omega)).symm⟩
/-- A slice of bools, in the block bb. -/
structure Bools (w : World) (bb : Nat) (vb : Value) (Bg : List Bool) : Prop where
  val : ∃ cap, vb = .slice (some ⟨bb, 0, none⟩) Bg.length cap
  blk : w.heap[bb]? = some (.cells (Bg.map Value.bool).toArray 4)
theorem Bools.cell {w : World} {bb : Nat} {vb : Value} {Bg : List Bool} (h : Bools w bb vb Bg) (j : Nat) (hj : j < Bg.length) : w.cell? ⟨bb, j, none⟩ = some (.bool (Bg[j]?.getD false)) := by
  unfold World.cell?; rw [h.blk]; simp [hj]
theorem Bools.lt {w : World} {bb : Nat} {vb : Value} {Bg : List Bool} (h : Bools w bb vb Bg) : bb < w.heap.size := (Array.getElem?_eq_some_iff.1 h.blk).1
theorem Bools.fro {w : World} {bb : Nat} {vb : Value} {Bg : List Bool} (h : Bools w bb vb Bg) (j : Nat) : w.frozen? ⟨bb, j, none⟩ = false := by simp [World.frozen?, h.blk]
theorem Bools.keep {S : Nat → Prop} {w w' : World} {bb : Nat} {vb : Value} {Bg : List Bool} (h : Bools w bb vb Bg) (hb : S bb) (hk : Keep S w w') : Bools w' bb vb Bg := ⟨h.val, (hk bb hb).trans h.blk⟩
theorem Bools.gr {w w' : World} {bb : Nat} {vb : Value} {Bg : List Bool} (h : Bools w bb vb Bg) (hk : Below w.heap.size w w') : Bools w' bb vb Bg := ⟨h.val, (hk.block bb h.lt).trans h.blk⟩
theorem heap_set {w : World} {b : Nat} {cs : Array Value} {t : TypeId} (h : w.heap[b]? = some (.cells cs t)) (o : Nat) (u : Value) : (w.setCell ⟨b, o, none⟩ u).heap[b]? = some (.cells (cs.setIfInBounds o u) t) := by
  obtain ⟨hlt, hk⟩ := Array.getElem?_eq_some_iff.1 h
  show (w.heap.modify b _)[b]? = _
  rw [Array.getElem?_eq_getElem (by rw [Array.size_modify]; exact hlt), Array.getElem_modify_self, hk]
  rfl
theorem Bools.set {w : World} {bb : Nat} {vb : Value} {Bg : List Bool} (h : Bools w bb vb Bg) (j : Nat) (v : Bool) : Bools (w.setCell ⟨bb, j, none⟩ (.bool v)) bb vb (Bg.set j v) := by
  refine ⟨by simpa using h.val, ?_⟩
  rw [heap_set h.blk]
  congr 2
  simp [List.map_set]
theorem Bools.other {w : World} {bb : Nat} {vb : Value} {Bg : List Bool} (h : Bools w bb vb Bg) {b o : Nat} (hb : bb ≠ b) (u : Value) : Bools (w.setCell ⟨b, o, none⟩ u) bb vb Bg := ⟨h.val, (Below.heap_setCell w ⟨b, o, none⟩ u bb hb).trans h.blk⟩
/-- What the program's record has. -/
def Rec (w : World) (P : Nat) (sv vb vs vh : Value) : Prop := w.heap[P]? = some (.cells #[sv, vb, vs, vh] 45)
section
variable {w w' : World} {P : Nat} {sv vb vs vh : Value}
theorem Rec.cells (h : Rec w P sv vb vs vh) : w.cell? ⟨P, 0, none⟩ = some sv ∧ w.cell? ⟨P, 1, none⟩ = some vb ∧ w.cell? ⟨P, 2, none⟩ = some vs ∧ w.cell? ⟨P, 3, none⟩ = some vh := by
  refine ⟨?_, ?_, ?_, ?_⟩ <;> (unfold Rec at h; simp [World.cell?, h])
theorem Rec.fro (h : Rec w P sv vb vs vh) (k : Nat) : w.frozen? ⟨P, k, none⟩ = false := by unfold Rec at h; simp [World.frozen?, h]
theorem Rec.lt (h : Rec w P sv vb vs vh) : P < w.heap.size := (Array.getElem?_eq_some_iff.1 h).1
theorem Rec.set1 (h : Rec w P sv vb vs vh) (u : Value) : Rec (w.setCell ⟨P, 1, none⟩ u) P sv u vs vh := heap_set h 1 u
theorem Rec.set2 (h : Rec w P sv vb vs vh) (u : Value) : Rec (w.setCell ⟨P, 2, none⟩ u) P sv vb u vh := heap_set h 2 u
theorem Rec.set3 (h : Rec w P sv vb vs vh) (u : Value) : Rec (w.setCell ⟨P, 3, none⟩ u) P sv vb vs u := heap_set h 3 u
theorem Rec.other (h : Rec w P sv vb vs vh) {b o : Nat} (hb : P ≠ b) (u : Value) : Rec (w.setCell ⟨b, o, none⟩ u) P sv vb vs vh := (Below.heap_setCell w ⟨b, o, none⟩ u P hb).trans h
theorem Rec.keep {S : Nat → Prop} (h : Rec w P sv vb vs vh) (hP : S P) (hk : Keep S w w') : Rec w' P sv vb vs vh := (hk P hP).trans h
theorem Rec.gr (h : Rec w P sv vb vs vh) (hk : Below w.heap.size w w') : Rec w' P sv vb vs vh := (hk.block P (Array.getElem?_eq_some_iff.1 h).1).trans h
end
theorem next_elem {α : Type} {enc : α → Int} {xs pre : List α} {Bg : List Bool} {a k b : Nat} (hxs : xs.map enc = begL Bg a b) (hpre : pre <+: xs) (hpm : pre.map enc = begL Bg a k) (hak : a ≤ k) (hlt : k < b) (hbk : Bg[k]?.getD false = true) : ∃ x, enc x = (k : Int) ∧ (pre ++ [x]) <+: xs := by
  obtain ⟨r, rfl⟩ := hpre
  have hp := begL_pre Bg (show a ≤ k + 1 by omega) (show k + 1 ≤ b by omega)
  rw [begL_succ Bg hak, hbk, ← hxs, List.map_append, hpm] at hp
  have h2 : [(k : Int)] <+: r.map enc := by simpa using (List.prefix_append_right_inj _).1 hp
  match r, h2 with
  | x :: r, h2 =>
    refine ⟨x, ?_, ⟨r, by simp⟩⟩
    have := List.cons_prefix_cons.1 h2
    exact this.1.symm
  | [], h2 => simp at h2
set_option maxRecDepth 100000 in
set_option maxHeartbeats 2000000 in
theorem begin1_in {α : Type} (enc : α → Int) (xs : List α) (n : Nat) (hn : 1 ≤ n) (l Bs Bp P bb : Nat) (S : Nat → Prop) (sv vb vs vh : Value) (Bg : List Bool) (hlen : Bg.length ≤ 4096) (a b : Nat) (hab : a ≤ b) (hb : b ≤ Bg.length) (hxs : xs.map enc = begL Bg a b) (J Jx : List α → World → Prop) (W : World)
    (hY : ∀ pre x W1, J pre W1 → pre.length < b - a → YieldAt Fence.wide (n - 1) Try.prog l #[.int .i64 (enc x)] W1 fun e W' => (e = .returned (.bool true) ∧ J (pre ++ [x]) W' ∧ Keep S W1 W') ∨ (e = .returned (.bool false) ∧ Jx (pre ++ [x]) W'))
    (h0 : J [] W) (hSs : S Bs) (hSp : S Bp) (hSP : S P) (hSb : S bb)
    (c0 : W.cell? ⟨Bs, 0, none⟩ = some (.int .i64 a)) (c1 : W.cell? ⟨Bs, 1, none⟩ = some (.int .i64 b)) (cp : W.cell? ⟨Bp, 0, none⟩ = some (.pointer (some ⟨P, 0, none⟩))) (hR : Rec W P sv vb vs vh) (hB : Bools W bb vb Bg) :
    CallsIn Fence.wide n Try.prog 67 #[.func (.yield l) #[] #[], .pointer (some ⟨Bs, 0, none⟩), .pointer (some ⟨Bp, 0, none⟩)] W (Came xs J Jx) := by
  obtain ⟨cap, rfl⟩ := hB.val
  refine callsIn_of_wp Try.func67 rfl trivial ?_ rfl
  simp only [Try.ntmps67, List.size_toArray, List.length_cons, List.length_nil, Nat.reduceAdd, Nat.reduceSub, Array.replicate_succ, Array.replicate_zero, List.push_toArray, List.append_toArray, List.nil_append, List.cons_append]
  gi_wp2
  gi_loopw [4] (fun i wr => ∃ k : Nat, a ≤ k ∧ k ≤ b ∧ i = .int .i64 k ∧ (∃ pre, pre <+: xs ∧ pre.map enc = begL Bg a k ∧ J pre wr) ∧ Keep S W wr)
    (fun i _ => b - (intOf i).toNat)
  case atStart => exact ⟨a, Nat.le_refl _, hab, rfl, ⟨[], List.nil_prefix, by rw [begL_nil]; rfl, h0⟩, Keep.refl _ _⟩
  case round =>
    obtain ⟨k, hak, hkb, rfl, ⟨pre, hpre, hpm, hJs⟩, hK⟩ := hrel
    have d0 := (hK.cell (p := ⟨Bs, 0, none⟩) hSs).trans c0
    have d1 := (hK.cell (p := ⟨Bs, 1, none⟩) hSs).trans c1
    have dp := (hK.cell (p := ⟨Bp, 0, none⟩) hSp).trans cp
    obtain ⟨r0, r1, r2, r3⟩ := (hR.keep hSP hK).cells
    by_cases hlt : k < b
    · have hck := (hB.keep hSb hK).cell k (by omega)
      have e1 : IntKind.i64.wrap ((k : Int) + 1) = (k : Int) + 1 := IntWalk.i64_in _ (by omega)
      have hd : decide ((k : Int) < b) = true := by simp; omega
      cases hbk : Bg[k]?.getD false with
      | true =>
        rw [hbk] at hck
        obtain ⟨x, hx, hpx⟩ := next_elem hxs hpre hpm hak hlt hbk
        obtain ⟨fn, tmps, assign, body, hy, hR'⟩ := hY _ x wr hJs (by have := begL_len Bg a k; rw [← hpm, List.length_map] at this; omega)
        rw [hx] at hy
        gi_wp2
        refine hR'.mono ?_
        rintro e W3 (⟨rfl, hJ3, hk3⟩ | ⟨rfl, hJx3⟩)
        · gi_wp2
          go_roundw
          case rel => exact ⟨k + 1, by omega, by omega, by simp, ⟨pre ++ [x], hpx, by rw [begL_succ Bg hak, hbk, List.map_append, hpm]; simp [hx], hJ3⟩, hK.trans hk3⟩
          case measure => simp [intOf]; omega
        · gi_wp2
          refine bodyPost_ret (results_none rfl _ _ _) rfl ?_
          exact ⟨⟨_, rfl⟩, .inr ⟨_, hpx, hJx3⟩⟩
      | false =>
        rw [hbk] at hck
        gi_wp2
        refine ⟨fun _ h => (by cases h), ?_⟩
        gi_wp2
        go_roundw
        case rel => exact ⟨k + 1, by omega, by omega, by simp, ⟨pre, hpre, by rw [begL_succ Bg hak, hbk, hpm]; simp, hJs⟩, hK⟩
        case measure => simp [intOf]; omega
    · obtain rfl : k = b := by omega
      gi_wp2
      go_end0
      obtain rfl : pre = xs := hpre.eq_of_length (by rw [← List.length_map (f := enc), hpm, ← hxs, List.length_map])
      exact ⟨⟨_, rfl⟩, .inl ⟨_, rfl, hJs⟩⟩
end Go.Proofs.Ytdmdmbcapjmnlab
