/- Towards the statements of package heap (layer 14): scripts as arguments. -/
import Derived.Test.YtooblonafnlfcaaDoorPW
namespace Go.Proofs.YtooblonafnlfcaaDoor
open Go.ChangeShapes Go.WideShapes Go.ChangeAt Go.RowKit
set_option linter.unusedVariables false
set_option linter.unusedSimpArgs false
set_option maxRecDepth 20000
/-- A step of a script. -/
structure Sp where
  d : Int
  o : Int
  k : Int
  a : Int
  n : Int
  s : ByteArray
  h : Int
  g : Nat
structure SpAt (w : World) (b o : Nat) (x : Sp) : Prop where
  c0 : w.cell? ⟨b, o, none⟩ = some (.int .i64 x.d)
  c1 : w.cell? ⟨b, o + 1, none⟩ = some (.int .i64 x.o)
  c2 : w.cell? ⟨b, o + 2, none⟩ = some (.int .i64 x.k)
  c3 : w.cell? ⟨b, o + 3, none⟩ = some (.int .i64 x.a)
  c4 : w.cell? ⟨b, o + 4, none⟩ = some (.int .i64 x.n)
  c5 : w.cell? ⟨b, o + 5, none⟩ = some (.string x.s)
  c6 : w.cell? ⟨b, o + 6, none⟩ = some (.int .i64 x.h)
  c7 : w.cell? ⟨b, o + 7, none⟩ = some (.int .u64 x.g)
structure SpOk (x : Sp) : Prop where
  d : I64 x.d
  o : I64 x.o
  k : I64 x.k
  a : I64 x.a
  n : I64 x.n
  s : x.s.size ≤ maxLen
  h : I64 x.h
def Sps (w : World) (p : Option Addr) (L : List Sp) : Prop := (∀ x ∈ L, SpOk x) ∧ (L = [] ∨ ∃ b o, p = some ⟨b, o, none⟩ ∧ b < w.heap.size ∧ ∀ j x, L[j]? = some x → SpAt w b (o + j * 8) x)
theorem SpAt.below {B : Nat} {w w' : World} {b o : Nat} {x : Sp} (h : SpAt w b o x) (hb : Below B w w') (hl : b < B) : SpAt w' b o x :=
  ⟨(hb.cell hl).trans h.c0, (hb.cell hl).trans h.c1, (hb.cell hl).trans h.c2, (hb.cell hl).trans h.c3, (hb.cell hl).trans h.c4, (hb.cell hl).trans h.c5, (hb.cell hl).trans h.c6, (hb.cell hl).trans h.c7⟩
theorem Sps.below {B : Nat} {w w' : World} {p : Option Addr} {L : List Sp} (h : Sps w p L) (hB : B = w.heap.size) (hb : Below B w w') : Sps w' p L := by
  subst hB
  refine ⟨h.1, ?_⟩
  rcases h.2 with e | ⟨b, o, e, hl, hc⟩
  · exact .inl e
  · exact .inr ⟨b, o, e, Nat.lt_of_lt_of_le hl hb.size, fun j x hx => (hc j x hx).below hb hl⟩
theorem cells36 : Tryd.prog.cellsOf 36 = 8 := by kernel_rfl
theorem cells34 : Tryd.prog.cellsOf 34 = 2 := by kernel_rfl
theorem cells9 : Tryd.prog.cellsOf 9 = 1 := by kernel_rfl
theorem cells3' : Tryd.prog.cellsOf 3 = 1 := by kernel_rfl
theorem cells32 : Tryd.prog.cellsOf 32 = 1 := by kernel_rfl
theorem wf_i64 {m : Int} (h : (Lit.int .i64 m).wf = true) : I64 m := by
  simpa [I64, Lit.wf, IntKind.min, IntKind.max, IntKind.signed, IntKind.bits] using h
theorem wf_u64 {m : Int} (h : (Lit.int .u64 m).wf = true) : 0 ≤ m ∧ m ≤ 18446744073709551615 := by
  simpa [Lit.wf, IntKind.min, IntKind.max, IntKind.signed, IntKind.bits] using h
theorem wf_u8' {m : Int} (h : (Lit.int .u8 m).wf = true) : 0 ≤ m ∧ m ≤ 255 := by
  simpa [Lit.wf, IntKind.min, IntKind.max, IntKind.signed, IntKind.bits] using h
theorem wf_u16' {m : Int} (h : (Lit.int .u16 m).wf = true) : 0 ≤ m ∧ m ≤ 65535 := by
  simpa [Lit.wf, IntKind.min, IntKind.max, IntKind.signed, IntKind.bits] using h
theorem len8 {α : Type} {cs : List α} (h : cs.length = 8) : ∃ c0 c1 c2 c3 c4 c5 c6 c7, cs = [c0, c1, c2, c3, c4, c5, c6, c7] := by
  match cs, h with
  | [c0, c1, c2, c3, c4, c5, c6, c7], _ => exact ⟨c0, c1, c2, c3, c4, c5, c6, c7, rfl⟩
theorem len2 {α : Type} {cs : List α} (h : cs.length = 2) : ∃ c0 c1, cs = [c0, c1] := by
  match cs, h with
  | [c0, c1], _ => exact ⟨c0, c1, rfl⟩
section
variable {H : Type} {enc : TypeId × Value → H} {w : World} {spare : Nat → Bool} {held : Bool}
theorem open_hd {n : Nat} {cs : List Value} {y : DataW H × List MemPlace} (h : DataW.trod enc Tryd.prog w 0 spare held n 34 cs = some y) :
    ∃ (a : Int) (g : Nat), I64 a ∧ cs = [.int .i64 a, .int .u64 g] := by
  obtain ⟨xs, m, _, hx, hcl, hlen, hi⟩ := DataW.trod_struct Tryd.underlying34 h
  obtain ⟨c0, c1, rfl⟩ := len2 (hcl.trans cells34)
  match xs, hlen with
  | [y0, y1], _ =>
    have h0 := hi 0 _ rfl
    simp [cells3', cells32] at h0
    obtain ⟨m0, f0, -, w0⟩ := DataW.trod_int Tryd.underlying3 h0
    have h1 := hi 1 _ rfl
    simp [cells3', cells32] at h1
    obtain ⟨m1, f1, -, w1⟩ := DataW.trod_int Tryd.underlying32 h1
    simp at f0 f1
    subst f0 f1
    have := wf_u64 w1
    exact ⟨m0, m1.toNat, wf_i64 w0, by simp; omega⟩
theorem open_step {n : Nat} {cs : List Value} {y : DataW H × List MemPlace} (h : DataW.trod enc Tryd.prog w 0 spare held n 36 cs = some y) :
    ∃ x : Sp, SpOk x ∧ cs = [.int .i64 x.d, .int .i64 x.o, .int .i64 x.k, .int .i64 x.a, .int .i64 x.n, .string x.s, .int .i64 x.h, .int .u64 x.g] := by
  obtain ⟨xs, m, _, hx, hcl, hlen, hi⟩ := DataW.trod_struct Tryd.underlying36 h
  obtain ⟨c0, c1, c2, c3, c4, c5, c6, c7, rfl⟩ := len8 (hcl.trans cells36)
  match xs, hlen with
  | [y0, y1, y2, y3, y4, y5, y6], _ =>
    have h0 := hi 0 _ rfl
    simp [cells3', cells32, cells9, cells34] at h0
    obtain ⟨m0, f0, -, w0⟩ := DataW.trod_int Tryd.underlying3 h0
    have h1 := hi 1 _ rfl
    simp [cells3', cells32, cells9, cells34] at h1
    obtain ⟨m1, f1, -, w1⟩ := DataW.trod_int Tryd.underlying3 h1
    have h2 := hi 2 _ rfl
    simp [cells3', cells32, cells9, cells34] at h2
    obtain ⟨m2, f2, -, w2⟩ := DataW.trod_int Tryd.underlying3 h2
    have h3 := hi 3 _ rfl
    simp [cells3', cells32, cells9, cells34] at h3
    obtain ⟨m3, f3, -, w3⟩ := DataW.trod_int Tryd.underlying3 h3
    have h4 := hi 4 _ rfl
    simp [cells3', cells32, cells9, cells34] at h4
    obtain ⟨m4, f4, -, w4⟩ := DataW.trod_int Tryd.underlying3 h4
    have h5 := hi 5 _ rfl
    simp [cells3', cells32, cells9, cells34] at h5
    obtain ⟨m5, f5, -, w5⟩ := DataW.trod_string Tryd.underlying9 h5
    have h6 := hi 6 _ rfl
    simp [cells3', cells32, cells9, cells34] at h6
    obtain ⟨m6, m7, w6, f6⟩ := open_hd h6
    simp at f0 f1 f2 f3 f4 f5 f6
    obtain ⟨f6, f7⟩ := f6
    subst f0 f1 f2 f3 f4 f5 f6 f7
    exact ⟨⟨m0, m1, m2, m3, m4, m5, m6, m7⟩, ⟨wf_i64 w0, wf_i64 w1, wf_i64 w2, wf_i64 w3, wf_i64 w4, w5, w6⟩, rfl⟩
theorem open_sps {r : Reach} {b0 : Nat} {v : Value} {d : DataW H} {p : List MemPlace} (hv : Value.okWide Tryd.prog w r b0 22 v) (h : DataW.Trod enc Tryd.prog w 0 spare held 22 v d p) :
    ∃ (a : Option Addr) (L : List Sp) (cap : Nat), v = .slice a L.length cap ∧ Sps w a L := by
  obtain ⟨a, len, cap, rfl⟩ := okWide_slice Tryd.underlying22 hv
  obtain ⟨fuel, hf⟩ := h
  rcases DataW.trod_slice Tryd.underlying22 hf with ⟨h0, _⟩ | ⟨a', len', cap', elems, rest, n, _, h0, _, _, _, _, hel, hget, _⟩
  · simp [Value.cells] at h0
    obtain ⟨rfl, rfl, rfl⟩ := h0
    exact ⟨none, [], 0, rfl, by simp, .inl rfl⟩
  · simp [Value.cells] at h0
    obtain ⟨rfl, rfl, rfl⟩ := h0
    have each : ∀ i, i < len → ∃ x : Sp, SpOk x ∧ a'.spot = none ∧ SpAt w a'.block (a'.off + i * 8) x ∧ a'.block < w.heap.size := by
      intro i hi
      have h1 := hget i hi
      rw [List.getElem?_eq_getElem (by omega), Option.bind_eq_some_iff] at h1
      obtain ⟨cs, hcs, ht⟩ := h1
      obtain ⟨x, hx, rfl⟩ := open_step ht
      rw [cells36] at hcs
      obtain ⟨_, _, hc⟩ := World.cells?_some hcs
      have g0 := hc 0 (by omega)
      have g1 := hc 1 (by omega)
      have g2 := hc 2 (by omega)
      have g3 := hc 3 (by omega)
      have g4 := hc 4 (by omega)
      have g5 := hc 5 (by omega)
      have g6 := hc 6 (by omega)
      have g7 := hc 7 (by omega)
      simp only [List.getElem?_cons_zero, List.getElem?_cons_succ] at g0 g1 g2 g3 g4 g5 g6 g7
      have hsp : a'.spot = none := by
        have h1 := hget 0 (by omega)
        rw [List.getElem?_eq_getElem (by omega), Option.bind_eq_some_iff] at h1
        obtain ⟨cs, hcs, ht⟩ := h1
        obtain ⟨x, hx, rfl⟩ := open_step ht
        rw [cells36] at hcs
        have g0 := (World.cells?_some hcs).2.2 0 (by omega)
        simp only [List.getElem?_cons_zero] at g0
        have hs := cell_spot g0
        simpa [Addr.add] using hs
      refine ⟨x, hx, hsp, ?_, ?_⟩
      · rw [add_of hsp] at g0 g1 g2 g3 g4 g5 g6 g7
        rw [add_of rfl] at g0 g1 g2 g3 g4 g5 g6 g7
        exact ⟨g0, g1, g2, g3, g4, g5, g6, g7⟩
      · rw [add_of hsp, add_of rfl] at g0
        exact cell_lt (p := ⟨a'.block, _, none⟩) g0
    obtain ⟨L, hl, hL⟩ := rows_of len each
    subst hl
    refine ⟨some a', L, cap, rfl, fun x hx => ?_, ?_⟩
    · obtain ⟨j, hj⟩ := List.getElem?_of_mem hx
      exact (hL j x hj).1
    · by_cases h0 : L.length = 0
      · exact .inl (List.eq_nil_of_length_eq_zero h0)
      · obtain ⟨x, hx⟩ : ∃ x, L[0]? = some x := ⟨L[0]'(by omega), List.getElem?_eq_getElem _⟩
        obtain ⟨_, hsp, _, hlt⟩ := hL 0 x hx
        refine .inr ⟨a'.block, a'.off, ?_, hlt, fun j x hx => (hL j x hx).2.2.1⟩
        have : a' = ⟨a'.block, a'.off, none⟩ := by cases a'; simp at hsp; rw [hsp]
        rw [← this]
end
/-- The i-th step of a script: where it lies, and what the walk's index answers. -/
theorem idx36 {w : World} {p : Option Addr} {L : List Sp} (h : Sps w p L) {i : Nat} (hi : i < L.length) (hl : L.length ≤ 100000) : ∃ b o x, L[i]? = some x ∧ SpOk x ∧ SpAt w b o x ∧ b < w.heap.size ∧ ∀ c W, (Instr.indexAt 22 (.slice p L.length c) (.int .i64 i)).run Tryd.prog W = .ok (.pointer (some ⟨b, o, none⟩)) W := by
  rcases h.2 with e | ⟨b, o, rfl, hb, hc⟩
  · subst e; simp at hi
  · have hx := List.getElem?_eq_getElem hi
    refine ⟨b, o + i * 8, L[i], hx, h.1 _ (List.getElem_mem _), hc i _ hx, hb, fun c W => ?_⟩
    have hi2 : (i : Int) < L.length := by omega
    simp [go_sem, hi]
end Go.Proofs.YtooblonafnlfcaaDoor
