/- Towards the statements of package bound (layer 5): a law's arguments that are structs by value: bounds, and what is told about them. -/
import Derived.Test.YtcbcijibgpaipaaGreatRows
import Derived.Lib.SmallJoins
import Derived.KernelRfl
import Derived.ChangeSame
namespace Go.Proofs.YtcbcijibgpaipaaGreat
open Go.ChangeShapes Go.WideShapes Go.ChangeAt Go.RowKit Go.Joins Go.ChangeShapes
set_option linter.unusedVariables false
set_option maxRecDepth 20000

section
variable {H : Type} {enc : TypeId × Value → H} {w : World} {base : Nat} {spare : Nat → Bool} {held : Bool}
theorem cells22 : Tryz.prog.cellsOf 22 = 1 := by kernel_rfl
theorem cells41 : Tryz.prog.cellsOf 41 = 1 := by kernel_rfl
theorem cells43 : Tryz.prog.cellsOf 43 = 7 := by kernel_rfl
theorem arr7 {α : Type} {cs : Array α} (h : cs.size = 7) : ∃ c0 c1 c2 c3 c4 c5 c6, cs = #[c0, c1, c2, c3, c4, c5, c6] := by
  obtain ⟨l⟩ := cs
  match l, h with
  | [c0, c1, c2, c3, c4, c5, c6], _ => exact ⟨c0, c1, c2, c3, c4, c5, c6, rfl⟩
theorem open_about {r : Reach} {b0 : Nat} {v : Value} {d : DataW H} {p : List MemPlace} (hv : Value.okWide Tryz.prog w r b0 43 v) (h : DataW.Trod enc Tryz.prog w base spare held 43 v d p) :
    ∃ m0 m1 m2 m3 m4 m5 m6 : Int, v = .agg #[.int .u64 m0, .int .u64 m1, .int .u64 m2, .int .u64 m3, .int .u64 m4, .int .u32 m5, .int .u32 m6] ∧ d = .agg [.lit (.int .u64 m0), .lit (.int .u64 m1), .lit (.int .u64 m2), .lit (.int .u64 m3), .lit (.int .u64 m4), .lit (.int .u32 m5), .lit (.int .u32 m6)] ∧ p = [] ∧ (Lit.int .u64 m0).wf = true ∧ (Lit.int .u64 m1).wf = true ∧ (Lit.int .u64 m2).wf = true ∧ (Lit.int .u64 m3).wf = true ∧ (Lit.int .u64 m4).wf = true ∧ (Lit.int .u32 m5).wf = true ∧ (Lit.int .u32 m6).wf = true := by
  obtain ⟨cs, rfl, hsz⟩ := okWide_struct Tryz.underlying43 hv
  obtain ⟨c0, c1, c2, c3, c4, c5, c6, rfl⟩ := arr7 (hsz.trans cells43)
  obtain ⟨fuel, hf⟩ := h
  obtain ⟨xs, n, _, hx, _, hlen, hi⟩ := DataW.trod_struct Tryz.underlying43 hf
  match xs, hlen with
  | [y0, y1, y2, y3, y4, y5, y6], _ =>
    have h0 := hi 0 _ rfl
    simp [Value.cells, cells22] at h0
    obtain ⟨m0, f0, rfl, w0⟩ := DataW.trod_int Tryz.underlying22 h0
    simp at f0
    subst f0
    have h1 := hi 1 _ rfl
    simp [Value.cells, cells22] at h1
    obtain ⟨m1, f1, rfl, w1⟩ := DataW.trod_int Tryz.underlying22 h1
    simp at f1
    subst f1
    have h2 := hi 2 _ rfl
    simp [Value.cells, cells22] at h2
    obtain ⟨m2, f2, rfl, w2⟩ := DataW.trod_int Tryz.underlying22 h2
    simp at f2
    subst f2
    have h3 := hi 3 _ rfl
    simp [Value.cells, cells22] at h3
    obtain ⟨m3, f3, rfl, w3⟩ := DataW.trod_int Tryz.underlying22 h3
    simp at f3
    subst f3
    have h4 := hi 4 _ rfl
    simp [Value.cells, cells22] at h4
    obtain ⟨m4, f4, rfl, w4⟩ := DataW.trod_int Tryz.underlying22 h4
    simp at f4
    subst f4
    have h5 := hi 5 _ rfl
    simp [Value.cells, cells41] at h5
    obtain ⟨m5, f5, rfl, w5⟩ := DataW.trod_int Tryz.underlying41 h5
    simp at f5
    subst f5
    have h6 := hi 6 _ rfl
    simp [Value.cells, cells41] at h6
    obtain ⟨m6, f6, rfl, w6⟩ := DataW.trod_int Tryz.underlying41 h6
    simp at f6
    subst f6
    simp at hx
    exact ⟨m0, m1, m2, m3, m4, m5, m6, rfl, hx.1, hx.2, w0, w1, w2, w3, w4, w5, w6⟩
theorem shut_about {m0 m1 m2 m3 m4 m5 m6 : Int} (w0 : (Lit.int .u64 m0).wf = true) (w1 : (Lit.int .u64 m1).wf = true) (w2 : (Lit.int .u64 m2).wf = true) (w3 : (Lit.int .u64 m3).wf = true) (w4 : (Lit.int .u64 m4).wf = true) (w5 : (Lit.int .u32 m5).wf = true) (w6 : (Lit.int .u32 m6).wf = true) : DataW.Trod enc Tryz.prog w base spare held 43 (.agg #[.int .u64 m0, .int .u64 m1, .int .u64 m2, .int .u64 m3, .int .u64 m4, .int .u32 m5, .int .u32 m6]) (.agg [.lit (.int .u64 m0), .lit (.int .u64 m1), .lit (.int .u64 m2), .lit (.int .u64 m3), .lit (.int .u64 m4), .lit (.int .u32 m5), .lit (.int .u32 m6)]) [] := by
  refine ⟨2, ?_⟩
  have k := trod_struct_mk (enc := enc) (w := w) (base := base) (spare := spare) (held := held) (n := 1) (cs := [.int .u64 m0, .int .u64 m1, .int .u64 m2, .int .u64 m3, .int .u64 m4, .int .u32 m5, .int .u32 m6]) (xs := [(.lit (.int .u64 m0), []), (.lit (.int .u64 m1), []), (.lit (.int .u64 m2), []), (.lit (.int .u64 m3), []), (.lit (.int .u64 m4), []), (.lit (.int .u32 m5), []), (.lit (.int .u32 m6), [])]) Tryz.underlying43 (by rw [cells43]; rfl) (by simp [cells22, cells41, trod_int_mk 0 Tryz.underlying22 w0, trod_int_mk 0 Tryz.underlying22 w1, trod_int_mk 0 Tryz.underlying22 w2, trod_int_mk 0 Tryz.underlying22 w3, trod_int_mk 0 Tryz.underlying22 w4, trod_int_mk 0 Tryz.underlying41 w5, trod_int_mk 0 Tryz.underlying41 w6])
  simpa [Value.cells] using k
end
end Go.Proofs.YtcbcijibgpaipaaGreat
