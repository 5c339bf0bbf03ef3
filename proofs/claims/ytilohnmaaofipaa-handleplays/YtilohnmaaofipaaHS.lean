/- Towards the statements of package handle (layer 13): scripts and rows of bytes as arguments. -/
import Derived.Test.YtilohnmaaofipaaHP
import Derived.ChangeSlices
namespace Go.Proofs.Ytilohnmaaofipaa
open Go.ChangeShapes Go.WideShapes Go.ChangeAt Go.RowKit
set_option linter.unusedVariables false
set_option linter.unusedSimpArgs false
set_option maxRecDepth 20000
/-- A step of a script: whether one is dropped, the slot, the number. -/
structure St where
  d : Bool
  s : Int
  g : Nat
structure StAt (w : World) (b o : Nat) (x : St) : Prop where
  c0 : w.cell? ⟨b, o, none⟩ = some (.bool x.d)
  c1 : w.cell? ⟨b, o + 1, none⟩ = some (.int .i64 x.s)
  c2 : w.cell? ⟨b, o + 2, none⟩ = some (.int .u64 x.g)
def Sts (w : World) (p : Option Addr) (L : List St) : Prop := (∀ x ∈ L, I64 x.s) ∧ (L = [] ∨ ∃ b o, p = some ⟨b, o, none⟩ ∧ b < w.heap.size ∧ ∀ j x, L[j]? = some x → StAt w b (o + j * 3) x)
def Row8 (w : World) (p : Option Addr) (C : List Int) : Prop := (∀ x ∈ C, 0 ≤ x ∧ x ≤ 255) ∧ (C = [] ∨ ∃ b o, p = some ⟨b, o, none⟩ ∧ b < w.heap.size ∧ ∀ j x, C[j]? = some x → w.cell? ⟨b, o + j, none⟩ = some (.int .u8 x))
theorem Sts.below {B : Nat} {w w' : World} {p : Option Addr} {L : List St} (h : Sts w p L) (hb : Below w.heap.size w w') : Sts w' p L := by
  refine ⟨h.1, ?_⟩
  rcases h.2 with e | ⟨b, o, e, hl, hc⟩
  · exact .inl e
  · exact .inr ⟨b, o, e, Nat.lt_of_lt_of_le hl hb.size, fun j x hx => ⟨(hb.cell hl).trans (hc j x hx).c0, (hb.cell hl).trans (hc j x hx).c1, (hb.cell hl).trans (hc j x hx).c2⟩⟩
theorem cells32 : Try.prog.cellsOf 32 = 3 := by kernel_rfl
theorem cells5 : Try.prog.cellsOf 5 = 1 := by kernel_rfl
theorem cells4 : Try.prog.cellsOf 4 = 1 := by kernel_rfl
theorem cells3 : Try.prog.cellsOf 3 = 1 := by kernel_rfl
theorem cells30 : Try.prog.cellsOf 30 = 1 := by kernel_rfl
theorem wf_i64 {m : Int} (h : (Lit.int .i64 m).wf = true) : I64 m := by
  simpa [I64, Lit.wf, IntKind.min, IntKind.max, IntKind.signed, IntKind.bits] using h
theorem wf_u64 {m : Int} (h : (Lit.int .u64 m).wf = true) : 0 ≤ m ∧ m ≤ 18446744073709551615 := by
  simpa [Lit.wf, IntKind.min, IntKind.max, IntKind.signed, IntKind.bits] using h
theorem wf_u8 {m : Int} (h : (Lit.int .u8 m).wf = true) : 0 ≤ m ∧ m ≤ 255 := by
  simpa [Lit.wf, IntKind.min, IntKind.max, IntKind.signed, IntKind.bits] using h
theorem cell_spot {w : World} {a : Addr} {v : Value} (h : w.cell? a = some v) : a.spot = none := by
  unfold World.cell? at h
  split at h
  · split at h
    · cases h
    · rename_i hs; simpa using hs
  · cases h
theorem add_of {a : Addr} (h : a.spot = none) (n : Nat) : a.add n = ⟨a.block, a.off + n, none⟩ := by
  cases a with | mk b o s =>
  simp only at h
  subst h
  unfold Addr.add
  split
  · rename_i e; subst e; rfl
  · rfl
theorem rows_of {α : Type} {Q : Nat → α → Prop} : ∀ n : Nat, (∀ i, i < n → ∃ x, Q i x) → ∃ L : List α, L.length = n ∧ ∀ j x, L[j]? = some x → Q j x
  | 0, _ => ⟨[], rfl, by simp⟩
  | n + 1, h => by
    obtain ⟨L, hl, hL⟩ := rows_of n fun i hi => h i (by omega)
    obtain ⟨x, hx⟩ := h n (by omega)
    refine ⟨L ++ [x], by simp [hl], fun j y hy => ?_⟩
    by_cases hj : j < n
    · rw [List.getElem?_append_left (by omega)] at hy
      exact hL j y hy
    · have hj2 : j = n := by
        have := (List.getElem?_eq_some_iff.1 hy).1
        simp at this; omega
      subst hj2
      rw [List.getElem?_append_right (by omega), hl] at hy
      simp at hy
      subst hy
      exact hx
theorem len3 {α : Type} {cs : List α} (h : cs.length = 3) : ∃ c0 c1 c2, cs = [c0, c1, c2] := by
  match cs, h with
  | [c0, c1, c2], _ => exact ⟨c0, c1, c2, rfl⟩
section
variable {H : Type} {enc : TypeId × Value → H} {w : World} {spare : Nat → Bool} {held : Bool}
theorem open_one {n : Nat} {cs : List Value} {y : DataW H × List MemPlace} (h : DataW.trod enc Try.prog w 0 spare held n 32 cs = some y) :
    ∃ x : St, I64 x.s ∧ cs = [.bool x.d, .int .i64 x.s, .int .u64 x.g] := by
  obtain ⟨xs, m, _, hx, hcl, hlen, hi⟩ := DataW.trod_struct Try.underlying32 h
  obtain ⟨c0, c1, c2, rfl⟩ := len3 (hcl.trans cells32)
  match xs, hlen with
  | [y0, y1, y2], _ =>
    have h0 := hi 0 _ rfl
    simp [cells4, cells3, cells30] at h0
    obtain ⟨m0, f0, -⟩ := DataW.trod_bool Try.underlying4 h0
    have h1 := hi 1 _ rfl
    simp [cells4, cells3, cells30] at h1
    obtain ⟨m1, f1, -, w1⟩ := DataW.trod_int Try.underlying3 h1
    have h2 := hi 2 _ rfl
    simp [cells4, cells3, cells30] at h2
    obtain ⟨m2, f2, -, w2⟩ := DataW.trod_int Try.underlying30 h2
    simp at f0 f1 f2
    subst f0 f1 f2
    have := wf_u64 w2
    exact ⟨⟨m0, m1, m2.toNat⟩, wf_i64 w1, by simp; omega⟩
theorem open_sts {r : Reach} {b0 : Nat} {v : Value} {d : DataW H} {p : List MemPlace} (hv : Value.okWide Try.prog w r b0 22 v) (h : DataW.Trod enc Try.prog w 0 spare held 22 v d p) :
    ∃ (a : Option Addr) (L : List St) (cap : Nat), v = .slice a L.length cap ∧ Sts w a L := by
  obtain ⟨a, len, cap, rfl⟩ := okWide_slice Try.underlying22 hv
  obtain ⟨fuel, hf⟩ := h
  rcases DataW.trod_slice Try.underlying22 hf with ⟨h0, _⟩ | ⟨a', len', cap', elems, rest, n, _, h0, _, _, _, _, hel, hget, _⟩
  · simp [Value.cells] at h0
    obtain ⟨rfl, rfl, rfl⟩ := h0
    exact ⟨none, [], 0, rfl, by simp, .inl rfl⟩
  · simp [Value.cells] at h0
    obtain ⟨rfl, rfl, rfl⟩ := h0
    have each : ∀ i, i < len → ∃ x : St, I64 x.s ∧ a'.spot = none ∧ StAt w a'.block (a'.off + i * 3) x ∧ a'.block < w.heap.size := by
      intro i hi
      have h1 := hget i hi
      rw [List.getElem?_eq_getElem (by omega), Option.bind_eq_some_iff] at h1
      obtain ⟨cs, hcs, ht⟩ := h1
      obtain ⟨x, hx, rfl⟩ := open_one ht
      rw [cells32] at hcs
      obtain ⟨_, _, hc⟩ := World.cells?_some hcs
      have g0 := hc 0 (by omega)
      have g1 := hc 1 (by omega)
      have g2 := hc 2 (by omega)
      simp only [List.getElem?_cons_zero, List.getElem?_cons_succ] at g0 g1 g2
      have hsp : a'.spot = none := by
        have h1 := hget 0 (by omega)
        rw [List.getElem?_eq_getElem (by omega), Option.bind_eq_some_iff] at h1
        obtain ⟨cs, hcs, ht⟩ := h1
        obtain ⟨x, hx, rfl⟩ := open_one ht
        rw [cells32] at hcs
        have g0 := (World.cells?_some hcs).2.2 0 (by omega)
        simp only [List.getElem?_cons_zero] at g0
        have hs := cell_spot g0
        simpa [Addr.add] using hs
      refine ⟨x, hx, hsp, ?_, ?_⟩
      · rw [add_of hsp] at g0 g1 g2
        rw [add_of rfl] at g0 g1 g2
        exact ⟨g0, g1, g2⟩
      · rw [add_of hsp, add_of rfl] at g0
        exact cell_lt (p := ⟨a'.block, _, none⟩) g0
    obtain ⟨L, hl, hL⟩ := rows_of len each
    subst hl
    refine ⟨some a', L, cap, rfl, fun x hx => ?_, ?_⟩
    · obtain ⟨j, hj⟩ := List.getElem?_of_mem hx
      exact (hL j x hj).1
    · by_cases h0 : L.length = 0
      · exact .inl (List.eq_nil_of_length_eq_zero h0)
      · obtain ⟨x, hx⟩ : ∃ x, L[0]? = some x := ⟨L[0]'(by omega), List.getElem?_eq_getElem _⟩
        obtain ⟨_, hsp, _, hlt⟩ := hL 0 x hx
        refine .inr ⟨a'.block, a'.off, ?_, hlt, fun j x hx => (hL j x hx).2.2.1⟩
        have : a' = ⟨a'.block, a'.off, none⟩ := by cases a'; simp at hsp; rw [hsp]
        rw [← this]
theorem open_row8 {r : Reach} {b0 : Nat} {v : Value} {d : DataW H} {p : List MemPlace} (hv : Value.okWide Try.prog w r b0 45 v) (h : DataW.Trod enc Try.prog w 0 (fun _ => true) held 45 v d p) :
    ∃ (a : Option Addr) (C : List Int) (cap : Nat), v = .slice a C.length cap ∧ Row8 w a C := by
  obtain ⟨a, len, cap, rfl⟩ := okWide_slice Try.underlying45 hv
  obtain ⟨fuel, hf⟩ := h
  rcases open_ints Try.underlying45 Try.underlying5 cells5 hf with ⟨h0, _⟩ | ⟨a', len', cap', zs, h0, _, hlc, hm, hz, _, hcell, hwz⟩
  · simp [Value.cells] at h0
    obtain ⟨rfl, rfl, rfl⟩ := h0
    exact ⟨none, [], 0, rfl, by simp, .inl rfl⟩
  · simp [Value.cells] at h0
    obtain ⟨rfl, rfl, rfl⟩ := h0
    simp only [if_true] at hz
    have hlen : (zs.take len).length = len := by rw [List.length_take]; omega
    refine ⟨some a', zs.take len, cap, by rw [hlen], fun x hx => wf_u8 (hwz x (List.mem_of_mem_take hx)), ?_⟩
    by_cases h0 : len = 0
    · exact .inl (List.eq_nil_of_length_eq_zero (by omega))
    · have g0 := hcell 0 (by omega)
      have hsp : a'.spot = none := by have := cell_spot g0; simpa [Addr.add] using this
      refine .inr ⟨a'.block, a'.off, ?_, ?_, fun j x hx => ?_⟩
      · have : a' = ⟨a'.block, a'.off, none⟩ := by cases a'; simp at hsp; rw [hsp]
        rw [← this]
      · rw [add_of hsp] at g0
        exact cell_lt (p := ⟨a'.block, _, none⟩) g0
      · have hj := (List.getElem?_eq_some_iff.1 hx).1
        have g := hcell j (by omega)
        rw [add_of hsp] at g
        rw [List.getElem?_take, if_pos (by omega)] at hx
        rw [List.getD, hx] at g
        exact g
end
end Go.Proofs.Ytilohnmaaofipaa
