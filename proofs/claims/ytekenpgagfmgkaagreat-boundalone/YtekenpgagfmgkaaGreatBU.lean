/- Towards the statements of package bound (layer 5): a law's arguments that are structs by value: bounds, and what is told about them. -/
import Derived.Test.YtekenpgagfmgkaaGreatRows
import Derived.Lib.SmallJoins
import Derived.KernelRfl
import Derived.ChangeSame
namespace Go.Proofs.YtekenpgagfmgkaaGreat
open Go.ChangeShapes Go.WideShapes Go.ChangeAt Go.RowKit Go.Joins Go.ChangeShapes
set_option linter.unusedVariables false
set_option maxRecDepth 20000

section
variable {H : Type} {enc : TypeId × Value → H} {w : World} {base : Nat} {spare : Nat → Bool} {held : Bool}
theorem cells22 : Tryz.prog.cellsOf 22 = 1 := by kernel_rfl
theorem cells2 : Tryz.prog.cellsOf 2 = 1 := by kernel_rfl
theorem cells41 : Tryz.prog.cellsOf 41 = 1 := by kernel_rfl
theorem cells24 : Tryz.prog.cellsOf 24 = 2 := by kernel_rfl
theorem cells26 : Tryz.prog.cellsOf 26 = 2 := by kernel_rfl
theorem cells28 : Tryz.prog.cellsOf 28 = 2 := by kernel_rfl
theorem cells30 : Tryz.prog.cellsOf 30 = 10 := by kernel_rfl
theorem cells43 : Tryz.prog.cellsOf 43 = 7 := by kernel_rfl
theorem pair24 {n : Nat} {x y : Value} {z : DataW H × List MemPlace} (h : DataW.trod enc Tryz.prog w base spare held n 24 [x, y] = some z) : ∃ a b, x = .int .u64 a ∧ y = .int .u64 b ∧ z = (.agg [.lit (.int .u64 a), .lit (.int .u64 b)], []) ∧ (Lit.int .u64 a).wf = true ∧ (Lit.int .u64 b).wf = true := by
  obtain ⟨y0, y1, m, rfl, _, h0, h1⟩ := trod_struct2 Tryz.underlying24 h
  simp [cells22] at h0 h1
  obtain ⟨a, f, rfl, wa⟩ := DataW.trod_int Tryz.underlying22 h0
  obtain ⟨b, g, rfl, wb⟩ := DataW.trod_int Tryz.underlying22 h1
  simp at f g
  exact ⟨a, b, f, g, rfl, wa, wb⟩
theorem pair24_mk {a b : Int} (wa : (Lit.int .u64 a).wf = true) (wb : (Lit.int .u64 b).wf = true) (m : Nat) : DataW.trod enc Tryz.prog w base spare held (m + 1 + 1) 24 [.int .u64 a, .int .u64 b] = some (.agg [.lit (.int .u64 a), .lit (.int .u64 b)], []) := by
  have k := trod_struct2_mk (enc := enc) (w := w) (base := base) (spare := spare) (held := held) (n := m + 1) (cs := [.int .u64 a, .int .u64 b]) Tryz.underlying24 (by rw [cells24]; rfl) (y0 := (.lit (.int .u64 a), [])) (y1 := (.lit (.int .u64 b), [])) (by simpa [cells22] using trod_int_mk m Tryz.underlying22 wa) (by simpa [cells22] using trod_int_mk m Tryz.underlying22 wb)
  exact k
theorem pair26 {n : Nat} {x y : Value} {z : DataW H × List MemPlace} (h : DataW.trod enc Tryz.prog w base spare held n 26 [x, y] = some z) : ∃ a b, x = .int .u64 a ∧ y = .int .u64 b ∧ z = (.agg [.lit (.int .u64 a), .lit (.int .u64 b)], []) ∧ (Lit.int .u64 a).wf = true ∧ (Lit.int .u64 b).wf = true := by
  obtain ⟨y0, y1, m, rfl, _, h0, h1⟩ := trod_struct2 Tryz.underlying26 h
  simp [cells22] at h0 h1
  obtain ⟨a, f, rfl, wa⟩ := DataW.trod_int Tryz.underlying22 h0
  obtain ⟨b, g, rfl, wb⟩ := DataW.trod_int Tryz.underlying22 h1
  simp at f g
  exact ⟨a, b, f, g, rfl, wa, wb⟩
theorem pair26_mk {a b : Int} (wa : (Lit.int .u64 a).wf = true) (wb : (Lit.int .u64 b).wf = true) (m : Nat) : DataW.trod enc Tryz.prog w base spare held (m + 1 + 1) 26 [.int .u64 a, .int .u64 b] = some (.agg [.lit (.int .u64 a), .lit (.int .u64 b)], []) := by
  have k := trod_struct2_mk (enc := enc) (w := w) (base := base) (spare := spare) (held := held) (n := m + 1) (cs := [.int .u64 a, .int .u64 b]) Tryz.underlying26 (by rw [cells26]; rfl) (y0 := (.lit (.int .u64 a), [])) (y1 := (.lit (.int .u64 b), [])) (by simpa [cells22] using trod_int_mk m Tryz.underlying22 wa) (by simpa [cells22] using trod_int_mk m Tryz.underlying22 wb)
  exact k
theorem pair28 {n : Nat} {x y : Value} {z : DataW H × List MemPlace} (h : DataW.trod enc Tryz.prog w base spare held n 28 [x, y] = some z) : ∃ a b, x = .int .i64 a ∧ y = .int .i64 b ∧ z = (.agg [.lit (.int .i64 a), .lit (.int .i64 b)], []) ∧ (Lit.int .i64 a).wf = true ∧ (Lit.int .i64 b).wf = true := by
  obtain ⟨y0, y1, m, rfl, _, h0, h1⟩ := trod_struct2 Tryz.underlying28 h
  simp [cells2] at h0 h1
  obtain ⟨a, f, rfl, wa⟩ := DataW.trod_int Tryz.underlying2 h0
  obtain ⟨b, g, rfl, wb⟩ := DataW.trod_int Tryz.underlying2 h1
  simp at f g
  exact ⟨a, b, f, g, rfl, wa, wb⟩
theorem pair28_mk {a b : Int} (wa : (Lit.int .i64 a).wf = true) (wb : (Lit.int .i64 b).wf = true) (m : Nat) : DataW.trod enc Tryz.prog w base spare held (m + 1 + 1) 28 [.int .i64 a, .int .i64 b] = some (.agg [.lit (.int .i64 a), .lit (.int .i64 b)], []) := by
  have k := trod_struct2_mk (enc := enc) (w := w) (base := base) (spare := spare) (held := held) (n := m + 1) (cs := [.int .i64 a, .int .i64 b]) Tryz.underlying28 (by rw [cells28]; rfl) (y0 := (.lit (.int .i64 a), [])) (y1 := (.lit (.int .i64 b), [])) (by simpa [cells2] using trod_int_mk m Tryz.underlying2 wa) (by simpa [cells2] using trod_int_mk m Tryz.underlying2 wb)
  exact k
theorem arr7 {α : Type} {cs : Array α} (h : cs.size = 7) : ∃ c0 c1 c2 c3 c4 c5 c6, cs = #[c0, c1, c2, c3, c4, c5, c6] := by
  obtain ⟨l⟩ := cs
  match l, h with
  | [c0, c1, c2, c3, c4, c5, c6], _ => exact ⟨c0, c1, c2, c3, c4, c5, c6, rfl⟩
theorem arr10 {α : Type} {cs : Array α} (h : cs.size = 10) : ∃ c0 c1 c2 c3 c4 c5 c6 c7 c8 c9, cs = #[c0, c1, c2, c3, c4, c5, c6, c7, c8, c9] := by
  obtain ⟨l⟩ := cs
  match l, h with
  | [c0, c1, c2, c3, c4, c5, c6, c7, c8, c9], _ => exact ⟨c0, c1, c2, c3, c4, c5, c6, c7, c8, c9, rfl⟩
theorem open_about {r : Reach} {b0 : Nat} {v : Value} {d : DataW H} {p : List MemPlace} (hv : Value.okWide Tryz.prog w r b0 43 v) (h : DataW.Trod enc Tryz.prog w base spare held 43 v d p) :
    ∃ m0 m1 m2 m3 m4 m5 m6 : Int, v = .agg #[.int .u64 m0, .int .u64 m1, .int .u64 m2, .int .u64 m3, .int .u64 m4, .int .u32 m5, .int .u32 m6] ∧ d = .agg [.lit (.int .u64 m0), .lit (.int .u64 m1), .lit (.int .u64 m2), .lit (.int .u64 m3), .lit (.int .u64 m4), .lit (.int .u32 m5), .lit (.int .u32 m6)] ∧ p = [] ∧ (Lit.int .u64 m0).wf = true ∧ (Lit.int .u64 m1).wf = true ∧ (Lit.int .u64 m2).wf = true ∧ (Lit.int .u64 m3).wf = true ∧ (Lit.int .u64 m4).wf = true ∧ (Lit.int .u32 m5).wf = true ∧ (Lit.int .u32 m6).wf = true := by
  obtain ⟨cs, rfl, hsz⟩ := okWide_struct Tryz.underlying43 hv
  obtain ⟨c0, c1, c2, c3, c4, c5, c6, rfl⟩ := arr7 (hsz.trans cells43)
  obtain ⟨fuel, hf⟩ := h
  obtain ⟨xs, n, _, hx, _, hlen, hi⟩ := DataW.trod_struct Tryz.underlying43 hf
  match xs, hlen with
  | [y0, y1, y2, y3, y4, y5, y6], _ =>
    have h0 := hi 0 _ rfl
    simp [Value.cells, cells22] at h0
    obtain ⟨m0, f0, rfl, w0⟩ := DataW.trod_int Tryz.underlying22 h0
    simp at f0
    subst f0
    have h1 := hi 1 _ rfl
    simp [Value.cells, cells22] at h1
    obtain ⟨m1, f1, rfl, w1⟩ := DataW.trod_int Tryz.underlying22 h1
    simp at f1
    subst f1
    have h2 := hi 2 _ rfl
    simp [Value.cells, cells22] at h2
    obtain ⟨m2, f2, rfl, w2⟩ := DataW.trod_int Tryz.underlying22 h2
    simp at f2
    subst f2
    have h3 := hi 3 _ rfl
    simp [Value.cells, cells22] at h3
    obtain ⟨m3, f3, rfl, w3⟩ := DataW.trod_int Tryz.underlying22 h3
    simp at f3
    subst f3
    have h4 := hi 4 _ rfl
    simp [Value.cells, cells22] at h4
    obtain ⟨m4, f4, rfl, w4⟩ := DataW.trod_int Tryz.underlying22 h4
    simp at f4
    subst f4
    have h5 := hi 5 _ rfl
    simp [Value.cells, cells41] at h5
    obtain ⟨m5, f5, rfl, w5⟩ := DataW.trod_int Tryz.underlying41 h5
    simp at f5
    subst f5
    have h6 := hi 6 _ rfl
    simp [Value.cells, cells41] at h6
    obtain ⟨m6, f6, rfl, w6⟩ := DataW.trod_int Tryz.underlying41 h6
    simp at f6
    subst f6
    simp at hx
    exact ⟨m0, m1, m2, m3, m4, m5, m6, rfl, hx.1, hx.2, w0, w1, w2, w3, w4, w5, w6⟩
theorem shut_about {m0 m1 m2 m3 m4 m5 m6 : Int} (w0 : (Lit.int .u64 m0).wf = true) (w1 : (Lit.int .u64 m1).wf = true) (w2 : (Lit.int .u64 m2).wf = true) (w3 : (Lit.int .u64 m3).wf = true) (w4 : (Lit.int .u64 m4).wf = true) (w5 : (Lit.int .u32 m5).wf = true) (w6 : (Lit.int .u32 m6).wf = true) : DataW.Trod enc Tryz.prog w base spare held 43 (.agg #[.int .u64 m0, .int .u64 m1, .int .u64 m2, .int .u64 m3, .int .u64 m4, .int .u32 m5, .int .u32 m6]) (.agg [.lit (.int .u64 m0), .lit (.int .u64 m1), .lit (.int .u64 m2), .lit (.int .u64 m3), .lit (.int .u64 m4), .lit (.int .u32 m5), .lit (.int .u32 m6)]) [] := by
  refine ⟨2, ?_⟩
  have k := trod_struct_mk (enc := enc) (w := w) (base := base) (spare := spare) (held := held) (n := 1) (cs := [.int .u64 m0, .int .u64 m1, .int .u64 m2, .int .u64 m3, .int .u64 m4, .int .u32 m5, .int .u32 m6]) (xs := [(.lit (.int .u64 m0), []), (.lit (.int .u64 m1), []), (.lit (.int .u64 m2), []), (.lit (.int .u64 m3), []), (.lit (.int .u64 m4), []), (.lit (.int .u32 m5), []), (.lit (.int .u32 m6), [])]) Tryz.underlying43 (by rw [cells43]; rfl) (by simp [cells22, cells41, trod_int_mk 0 Tryz.underlying22 w0, trod_int_mk 0 Tryz.underlying22 w1, trod_int_mk 0 Tryz.underlying22 w2, trod_int_mk 0 Tryz.underlying22 w3, trod_int_mk 0 Tryz.underlying22 w4, trod_int_mk 0 Tryz.underlying41 w5, trod_int_mk 0 Tryz.underlying41 w6])
  simpa [Value.cells] using k
theorem open_bound {r : Reach} {b0 : Nat} {v : Value} {d : DataW H} {p : List MemPlace} (hv : Value.okWide Tryz.prog w r b0 30 v) (h : DataW.Trod enc Tryz.prog w base spare held 30 v d p) :
    ∃ x0 x1 x2 x3 x4 x5 x6 x7 x8 x9 : Int, v = .agg #[.int .u64 x0, .int .u64 x1, .int .u64 x2, .int .u64 x3, .int .i64 x4, .int .i64 x5, .int .u64 x6, .int .u64 x7, .int .i64 x8, .int .i64 x9] ∧ d = .agg [.agg [.lit (.int .u64 x0), .lit (.int .u64 x1)], .agg [.lit (.int .u64 x2), .lit (.int .u64 x3)], .agg [.lit (.int .i64 x4), .lit (.int .i64 x5)], .agg [.lit (.int .u64 x6), .lit (.int .u64 x7)], .agg [.lit (.int .i64 x8), .lit (.int .i64 x9)]] ∧ p = [] ∧ (Lit.int .u64 x0).wf = true ∧ (Lit.int .u64 x1).wf = true ∧ (Lit.int .u64 x2).wf = true ∧ (Lit.int .u64 x3).wf = true ∧ (Lit.int .i64 x4).wf = true ∧ (Lit.int .i64 x5).wf = true ∧ (Lit.int .u64 x6).wf = true ∧ (Lit.int .u64 x7).wf = true ∧ (Lit.int .i64 x8).wf = true ∧ (Lit.int .i64 x9).wf = true := by
  obtain ⟨cs, rfl, hsz⟩ := okWide_struct Tryz.underlying30 hv
  obtain ⟨c0, c1, c2, c3, c4, c5, c6, c7, c8, c9, rfl⟩ := arr10 (hsz.trans cells30)
  obtain ⟨fuel, hf⟩ := h
  obtain ⟨xs, n, _, hx, _, hlen, hi⟩ := DataW.trod_struct Tryz.underlying30 hf
  match xs, hlen with
  | [y0, y1, y2, y3, y4], _ =>
    have h0 := hi 0 _ rfl
    simp [Value.cells, cells24] at h0
    obtain ⟨x0, x1, rfl, rfl, rfl, w0, w1⟩ := pair24 h0
    have h1 := hi 1 _ rfl
    simp [Value.cells, cells26] at h1
    obtain ⟨x2, x3, rfl, rfl, rfl, w2, w3⟩ := pair26 h1
    have h2 := hi 2 _ rfl
    simp [Value.cells, cells28] at h2
    obtain ⟨x4, x5, rfl, rfl, rfl, w4, w5⟩ := pair28 h2
    have h3 := hi 3 _ rfl
    simp [Value.cells, cells26] at h3
    obtain ⟨x6, x7, rfl, rfl, rfl, w6, w7⟩ := pair26 h3
    have h4 := hi 4 _ rfl
    simp [Value.cells, cells28] at h4
    obtain ⟨x8, x9, rfl, rfl, rfl, w8, w9⟩ := pair28 h4
    simp at hx
    exact ⟨x0, x1, x2, x3, x4, x5, x6, x7, x8, x9, rfl, hx.1, hx.2, w0, w1, w2, w3, w4, w5, w6, w7, w8, w9⟩
theorem shut_bound {x0 x1 x2 x3 x4 x5 x6 x7 x8 x9 : Int} (w0 : (Lit.int .u64 x0).wf = true) (w1 : (Lit.int .u64 x1).wf = true) (w2 : (Lit.int .u64 x2).wf = true) (w3 : (Lit.int .u64 x3).wf = true) (w4 : (Lit.int .i64 x4).wf = true) (w5 : (Lit.int .i64 x5).wf = true) (w6 : (Lit.int .u64 x6).wf = true) (w7 : (Lit.int .u64 x7).wf = true) (w8 : (Lit.int .i64 x8).wf = true) (w9 : (Lit.int .i64 x9).wf = true) : DataW.Trod enc Tryz.prog w base spare held 30 (.agg #[.int .u64 x0, .int .u64 x1, .int .u64 x2, .int .u64 x3, .int .i64 x4, .int .i64 x5, .int .u64 x6, .int .u64 x7, .int .i64 x8, .int .i64 x9]) (.agg [.agg [.lit (.int .u64 x0), .lit (.int .u64 x1)], .agg [.lit (.int .u64 x2), .lit (.int .u64 x3)], .agg [.lit (.int .i64 x4), .lit (.int .i64 x5)], .agg [.lit (.int .u64 x6), .lit (.int .u64 x7)], .agg [.lit (.int .i64 x8), .lit (.int .i64 x9)]]) [] := by
  refine ⟨3, ?_⟩
  have k := trod_struct_mk (enc := enc) (w := w) (base := base) (spare := spare) (held := held) (n := 2) (cs := [.int .u64 x0, .int .u64 x1, .int .u64 x2, .int .u64 x3, .int .i64 x4, .int .i64 x5, .int .u64 x6, .int .u64 x7, .int .i64 x8, .int .i64 x9]) (xs := [(.agg [.lit (.int .u64 x0), .lit (.int .u64 x1)], []), (.agg [.lit (.int .u64 x2), .lit (.int .u64 x3)], []), (.agg [.lit (.int .i64 x4), .lit (.int .i64 x5)], []), (.agg [.lit (.int .u64 x6), .lit (.int .u64 x7)], []), (.agg [.lit (.int .i64 x8), .lit (.int .i64 x9)], [])]) Tryz.underlying30 (by rw [cells30]; rfl) (by simp [cells24, cells26, cells28, pair24_mk w0 w1 0, pair26_mk w2 w3 0, pair28_mk w4 w5 0, pair26_mk w6 w7 0, pair28_mk w8 w9 0])
  simpa [Value.cells] using k
end
end Go.Proofs.YtekenpgagfmgkaaGreat
