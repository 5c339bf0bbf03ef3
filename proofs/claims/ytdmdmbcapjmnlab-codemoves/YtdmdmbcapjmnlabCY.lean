/- Towards the statements of package code (layer 8): Encode: a program's bytes. -/
import Derived.Test.YtdmdmbcapjmnlabCX
namespace Go.Proofs.Ytdmdmbcapjmnlab
open Go.ChangeShapes Go.WideShapes Go.ChangeAt
open Go.RowKit Go.Shelf
set_option linter.unusedVariables false
set_option linter.unusedSimpArgs false
set_option maxRecDepth 20000
def Sl.bytes (x : Sl) : List UInt8 := (encB x.o x.d x.s x.f x.i).data.toList
/-- A program's bytes. -/
def encL (L : List Sl) : List UInt8 := L.flatMap Sl.bytes
theorem encL_snoc (L : List Sl) (k : Nat) (x : Sl) (h : L[k]? = some x) : encL (L.take (k + 1)) = encL (L.take k) ++ x.bytes := by
  obtain ⟨h1, h2⟩ := List.getElem?_eq_some_iff.1 h
  rw [List.take_add_one, h]
  simp [encL, List.flatMap_append]
theorem bytes_len (x : Sl) (h : x.ok) : x.bytes.length = 8 := by
  unfold Sl.bytes encB
  have q1 : (ofB x.o 1).size = 1 := size_ofB (by decide)
  have q2 : (ofB (x.d % 16 + 16 * (x.s % 16)) 1).size = 1 := size_ofB (by decide)
  have q3 : (ofB (x.f % 18446744073709551616) 2).size = 2 := size_ofB (by decide)
  have q4 : (ofB (x.i % 18446744073709551616) 4).size = 4 := size_ofB (by decide)
  simp only [ByteArray.data_append, Array.toList_append, List.length_append]
  simp only [Array.length_toList]
  show (ofB x.o 1).size + (ofB _ 1).size + (ofB _ 2).size + (ofB _ 4).size = 8
  omega
theorem builder_gr {B b : Nat} {bs : List Value} {w w' : World} (h : Lib.IsBuilder 63 5 B b bs w) (hb : Below w.heap.size w w') : Lib.IsBuilder 63 5 B b bs w' := by
  have one : ∀ p, Lib.BuilderAt 63 5 B b p bs w → Lib.BuilderAt 63 5 B b p bs w' := by
    rintro p ⟨h1, v, h2, h3, h4⟩
    exact ⟨h1, v, (hb.block b (ch_lt h2)).trans h2, ownsRow_gr h3 hb, h4⟩
  exact h.elim (fun h => .inl (one _ h)) (fun h => .inr (one _ h))
theorem encL_len {L : List Sl} (h : ∀ x ∈ L, x.ok) : (encL L).length = 8 * L.length := by
  induction L with
  | nil => rfl
  | cons x t ih =>
    have : encL (x :: t) = x.bytes ++ encL t := by simp [encL]
    rw [this, List.length_append, bytes_len x (h x (by simp)), ih (fun y hy => h y (by simp [hy]))]
    simp; omega
set_option maxHeartbeats 4000000 in
theorem cencode_any (sv : Value) (L : List Sl) (w : World) (hL : Slots AnyB w sv L) : Calls Try.prog 11 #[sv] w fun e w' => e = .returned (.string ⟨(encL L).toArray⟩) ∧ Below w.heap.size w w' := by
  have hLh := hL.here
  obtain ⟨p, c, rfl⟩ := hL.shape
  have hlen := hL.len
  have hok : ∀ x ∈ L, x.ok := hL.ok
  have hb1 : Below w.heap.size w (w.alloc (.cells #[.pointer none, .slice none 0 0] 63)) := (Below.refl _ w).alloc (Nat.le_refl _) _
  have hB1 := Lib.fresh_isBuilder 63 5 w
  go_enter Try.func11, Try.ntmps11
  go_wp2_with fail
  generalize (w.alloc (.cells #[.pointer none, .slice none 0 0] 63)) = w1 at hb1 hB1 ⊢
  go_loopw [8] (fun i wr => ∃ k : Nat, i = .int .i64 k ∧ k ≤ L.length ∧ Lib.IsBuilder 63 5 w.heap.size w.heap.size (Lib.byteCells (encL (L.take k))) wr ∧ Below w.heap.size w wr) (fun i _ => L.length - (intOf i).toNat)
  case atStart => exact ⟨0, rfl, by omega, hB1, hb1⟩
  case round =>
    obtain ⟨k, rfl, hk1, hB, hb⟩ := hrel
    by_cases hlt : k < L.length
    · obtain ⟨x, hx⟩ : ∃ x, L[k]? = some x := ⟨L[k], by simp [hlt]⟩
      have hd : decide ((k : Int) < L.length) = true := by simp; omega
      have hd2 : decide ((0 : Int) ≤ (k : Int) ∧ (k : Int) < (L.length : Int)) = true := by simp; omega
      obtain ⟨b, off, cap, hsv, hb0, ⟨c0, c1, c2, c3, c4⟩, ⟨⟨o0, o1⟩, ⟨d0, d1⟩, ⟨s0, s1⟩, _⟩, hlt'⟩ := (hLh.keep (.of hb fun _ h => h) hb.size).get (at_ := (k : Int)) (by omega) (by simpa using hx)
      cases hsv
      simp only [Int.toNat_natCast] at c0 c1 c2 c3 c4
      have e1 : IntKind.i64.wrap ((k : Int) + 1) = (k : Int) + 1 := IntWalk.i64_in _ (by omega)
      have ke := fun W => encode_any x.o x.d x.s x.f x.i o0 o1 d0 d1 s0 s1 W
      have hal : Below wr.heap.size wr (wr.alloc (.cells #[.int .u8 x.o, .int .u8 x.d, .int .u8 x.s, .int .i16 x.f, .int .i32 x.i] 30)) := (Below.refl _ wr).alloc (Nat.le_refl _) _
      have hll : (Lib.byteCells (encL (L.take k))).length = 8 * k := by rw [Lib.byteCells, List.length_map, encL_len (fun y hy => hok y (List.mem_of_mem_take hy))]; simp; omega
      have h8 : (encB x.o x.d x.s x.f x.i).size = 8 := by have := bytes_len x (hok x (List.mem_of_getElem? hx)); rw [Sl.bytes, Array.length_toList] at this; exact this
      have kw := fun W (hw : Below wr.heap.size wr W) => write_any w.heap.size w.heap.size _ (encB x.o x.d x.s x.f x.i) W (builder_gr hB hw) (by rw [hll, h8]; omega) (Nat.le_trans hb.size hw.size)
      go_wp2_with first | (go_at_call 21; refine (ke _).mono ?_; rintro e w2 ⟨rfl, hg⟩; have hb2 := hal.trans (hg.below.mono hal.size)) | (go_at_call 20; refine (kw _ hb2).mono ?_; rintro e w3 ⟨rfl, hbu, hb3⟩)
      refine ⟨⟨k + 1, by simp, by omega, .inr ?_, hb.trans ((hb2.mono hb.size).trans hb3)⟩, by simp [intOf]; omega⟩
      rw [encL_snoc L k x hx]
      have e2 : Lib.byteCells (encL (L.take k) ++ x.bytes) = Lib.byteCells (encL (L.take k)) ++ Lib.strCells (encB x.o x.d x.s x.f x.i) := by simp [Lib.byteCells, Lib.strCells, Sl.bytes]
      rw [e2]
      exact hbu
    · have hd : decide ((k : Int) < L.length) = false := by simp; omega
      obtain rfl : k = L.length := by omega
      rw [List.take_length] at hB
      have ks := Try.Builder_String_any w.heap.size w.heap.size (encL L) wr hB hb.size
      go_wp2_with first | (go_at_call 22; refine ks.mono ?_; rintro e w2 ⟨rfl, hb2⟩)
      go_returns
      exact ⟨rfl, hb.trans hb2⟩
end Go.Proofs.Ytdmdmbcapjmnlab
