/- Towards SlabPlays: scripts as arguments; heavy. -/
import Derived.Test.YtkjdnebmhljciaaDoorDF
import Derived.Test.YtkjdnebmhljciaaDoorSO
import Derived.ChangeSlices
namespace Go.Proofs.YtkjdnebmhljciaaDoor
open Go.ChangeShapes Go.WideShapes Go.ChangeAt Go.RowKit
set_option linter.unusedVariables false
set_option linter.unusedSimpArgs false
set_option maxRecDepth 20000
/-- A step of a script. -/
structure Sp where
  d : Int
  o : Int
  a : Int
  n : Int
  s : ByteArray
structure SpAt (w : World) (b o : Nat) (x : Sp) : Prop where
  c0 : w.cell? ⟨b, o, none⟩ = some (.int .i64 x.d)
  c1 : w.cell? ⟨b, o + 1, none⟩ = some (.int .i64 x.o)
  c2 : w.cell? ⟨b, o + 2, none⟩ = some (.int .i64 x.a)
  c3 : w.cell? ⟨b, o + 3, none⟩ = some (.int .i64 x.n)
  c4 : w.cell? ⟨b, o + 4, none⟩ = some (.string x.s)
structure SpOk (x : Sp) : Prop where
  d : I64 x.d
  o : I64 x.o
  a : I64 x.a
  n : I64 x.n
  s : x.s.size ≤ maxLen
def Sps (w : World) (p : Option Addr) (L : List Sp) : Prop := (∀ x ∈ L, SpOk x) ∧ (L = [] ∨ ∃ b o, p = some ⟨b, o, none⟩ ∧ b < w.heap.size ∧ ∀ j x, L[j]? = some x → SpAt w b (o + j * 5) x)
theorem cells34 : Tryd.prog.cellsOf 34 = 5 := by kernel_rfl
theorem cells9 : Tryd.prog.cellsOf 9 = 1 := by kernel_rfl
theorem cells3 : Tryd.prog.cellsOf 3 = 1 := by kernel_rfl
theorem wf_i64 {m : Int} (h : (Lit.int .i64 m).wf = true) : I64 m := by
  simpa [I64, Lit.wf, IntKind.min, IntKind.max, IntKind.signed, IntKind.bits] using h
theorem len5 {α : Type} {cs : List α} (h : cs.length = 5) : ∃ c0 c1 c2 c3 c4, cs = [c0, c1, c2, c3, c4] := by
  match cs, h with
  | [c0, c1, c2, c3, c4], _ => exact ⟨c0, c1, c2, c3, c4, rfl⟩
section
variable {H : Type} {enc : TypeId × Value → H} {w : World} {spare : Nat → Bool} {held : Bool}
theorem open_step {n : Nat} {cs : List Value} {y : DataW H × List MemPlace} (h : DataW.trod enc Tryd.prog w 0 spare held n 34 cs = some y) :
    ∃ x : Sp, SpOk x ∧ cs = [.int .i64 x.d, .int .i64 x.o, .int .i64 x.a, .int .i64 x.n, .string x.s] := by
  obtain ⟨xs, m, _, hx, hcl, hlen, hi⟩ := DataW.trod_struct Tryd.underlying34 h
  obtain ⟨c0, c1, c2, c3, c4, rfl⟩ := len5 (hcl.trans cells34)
  match xs, hlen with
  | [y0, y1, y2, y3, y4], _ =>
    have h0 := hi 0 _ rfl
    simp [cells3, cells9] at h0
    obtain ⟨m0, f0, -, w0⟩ := DataW.trod_int Tryd.underlying3 h0
    have h1 := hi 1 _ rfl
    simp [cells3, cells9] at h1
    obtain ⟨m1, f1, -, w1⟩ := DataW.trod_int Tryd.underlying3 h1
    have h2 := hi 2 _ rfl
    simp [cells3, cells9] at h2
    obtain ⟨m2, f2, -, w2⟩ := DataW.trod_int Tryd.underlying3 h2
    have h3 := hi 3 _ rfl
    simp [cells3, cells9] at h3
    obtain ⟨m3, f3, -, w3⟩ := DataW.trod_int Tryd.underlying3 h3
    have h4 := hi 4 _ rfl
    simp [cells3, cells9] at h4
    obtain ⟨m4, f4, -, w4⟩ := DataW.trod_string Tryd.underlying9 h4
    simp at f0 f1 f2 f3 f4
    subst f0 f1 f2 f3 f4
    exact ⟨⟨m0, m1, m2, m3, m4⟩, ⟨wf_i64 w0, wf_i64 w1, wf_i64 w2, wf_i64 w3, w4⟩, rfl⟩
theorem open_sps {r : Reach} {b0 : Nat} {v : Value} {d : DataW H} {p : List MemPlace} (hv : Value.okWide Tryd.prog w r b0 22 v) (h : DataW.Trod enc Tryd.prog w 0 spare held 22 v d p) :
    ∃ (a : Option Addr) (L : List Sp) (cap : Nat), v = .slice a L.length cap ∧ Sps w a L := by
  obtain ⟨a, len, cap, rfl⟩ := okWide_slice Tryd.underlying22 hv
  obtain ⟨fuel, hf⟩ := h
  rcases DataW.trod_slice Tryd.underlying22 hf with ⟨h0, _⟩ | ⟨a', len', cap', elems, rest, n, _, h0, _, _, _, _, hel, hget, _⟩
  · simp [Value.cells] at h0
    obtain ⟨rfl, rfl, rfl⟩ := h0
    exact ⟨none, [], 0, rfl, by simp, .inl rfl⟩
  · simp [Value.cells] at h0
    obtain ⟨rfl, rfl, rfl⟩ := h0
    have each : ∀ i, i < len → ∃ x : Sp, SpOk x ∧ a'.spot = none ∧ SpAt w a'.block (a'.off + i * 5) x ∧ a'.block < w.heap.size := by
      intro i hi
      have h1 := hget i hi
      rw [List.getElem?_eq_getElem (by omega), Option.bind_eq_some_iff] at h1
      obtain ⟨cs, hcs, ht⟩ := h1
      obtain ⟨x, hx, rfl⟩ := open_step ht
      rw [cells34] at hcs
      obtain ⟨_, _, hc⟩ := World.cells?_some hcs
      have g0 := hc 0 (by omega)
      have g1 := hc 1 (by omega)
      have g2 := hc 2 (by omega)
      have g3 := hc 3 (by omega)
      have g4 := hc 4 (by omega)
      simp only [List.getElem?_cons_zero, List.getElem?_cons_succ] at g0 g1 g2 g3 g4
      have hsp : a'.spot = none := by
        have h1 := hget 0 (by omega)
        rw [List.getElem?_eq_getElem (by omega), Option.bind_eq_some_iff] at h1
        obtain ⟨cs, hcs, ht⟩ := h1
        obtain ⟨x, hx, rfl⟩ := open_step ht
        rw [cells34] at hcs
        have g0 := (World.cells?_some hcs).2.2 0 (by omega)
        simp only [List.getElem?_cons_zero] at g0
        have hs := cell_spot g0
        simpa [Addr.add] using hs
      refine ⟨x, hx, hsp, ?_, ?_⟩
      · rw [add_of hsp] at g0 g1 g2 g3 g4
        rw [add_of rfl] at g0 g1 g2 g3 g4
        exact ⟨g0, g1, g2, g3, g4⟩
      · rw [add_of hsp, add_of rfl] at g0
        exact cell_lt (p := ⟨a'.block, _, none⟩) g0
    obtain ⟨L, hl, hL⟩ := rows_of len each
    subst hl
    refine ⟨some a', L, cap, rfl, fun x hx => ?_, ?_⟩
    · obtain ⟨j, hj⟩ := List.getElem?_of_mem hx
      exact (hL j x hj).1
    · by_cases h0 : L.length = 0
      · exact .inl (List.eq_nil_of_length_eq_zero h0)
      · obtain ⟨x, hx⟩ : ∃ x, L[0]? = some x := ⟨L[0]'(by omega), List.getElem?_eq_getElem _⟩
        obtain ⟨_, hsp, _, hlt⟩ := hL 0 x hx
        refine .inr ⟨a'.block, a'.off, ?_, hlt, fun j x hx => (hL j x hx).2.2.1⟩
        have : a' = ⟨a'.block, a'.off, none⟩ := by cases a'; simp at hsp; rw [hsp]
        rw [← this]
end
theorem idx34 {w : World} {p : Option Addr} {L : List Sp} (h : Sps w p L) {i : Nat} (hi : i < L.length) : ∃ b o x, L[i]? = some x ∧ SpOk x ∧ SpAt w b o x ∧ b < w.heap.size ∧ ∀ c W, (Instr.indexAt 22 (.slice p L.length c) (.int .i64 i)).run Tryd.prog W = .ok (.pointer (some ⟨b, o, none⟩)) W := by
  rcases h.2 with e | ⟨b, o, rfl, hb, hc⟩
  · subst e; simp at hi
  · have hx := List.getElem?_eq_getElem hi
    refine ⟨b, o + i * 5, L[i], hx, h.1 _ (List.getElem_mem _), hc i _ hx, hb, fun c W => ?_⟩
    have hi2 : (i : Int) < L.length := by omega
    simp [go_sem, hi]
set_option maxHeartbeats 1000000 in
/-- More than the statements play. -/
theorem heavy_any (w : World) (p : Option Addr) (L : List Sp) (c : Nat) (h : Sps w p L) :
    Calls Tryd.prog 8 #[.slice p L.length c] w fun e w' => (∃ b : Bool, e = .returned (.bool b) ∧ (L.length ≤ 250 ∨ b = true)) ∧ w' = w := by
  go_enter Tryd.func8, Tryd.ntmps8
  go_wp2
  go_loopw [3, 4] (fun n3 n4 wr => ∃ (i : Nat) (t : Int), n4 = .int .i64 i ∧ n3 = .int .i64 t ∧ i ≤ 500 ∧ i ≤ L.length ∧ wr = w) (fun _ n4 _ => 500 - (valOf n4).toNat)
  case atStart => exact ⟨0, 0, rfl, rfl, by omega, by omega, rfl⟩
  case round =>
    obtain ⟨i, t, rfl, rfl, hi5, hil, hw⟩ := hrel
    rw [hw]; clear hw
    replace h : Hid _ := h
    by_cases h1 : i < L.length
    · have dA : decide ((i : Int) < L.length) = true := by simp; omega
      by_cases h2 : i < 500
      · have dB : decide ((i : Int) < 500) = true := by simp; omega
        obtain ⟨b, o, x, hx, hxo, hxa, hbl, hix⟩ := idx34 h.out h1
        have c5 := hxa.c4
        have hix' := hix c
        have e9 : IntKind.i64.wrap ((i : Int) + 1) = (i : Int) + 1 := IntWalk.i64_in _ (by omega)
        clear hix hxa hxo
        go_wp2
        exact ⟨⟨i + 1, _, by simp, rfl, by omega, by omega, by trivial⟩, by simp [valOf]; omega⟩
      · have dB : decide ((i : Int) < 500) = false := by simp; omega
        have dC : decide ((250 : Int) < L.length) = true := by simp; omega
        go_wp2
        all_goals go_returns
        all_goals simp
    · have dA : decide ((i : Int) < L.length) = false := by simp; omega
      obtain rfl : i = L.length := by omega
      by_cases h3 : 250 < L.length
      · have dC : decide ((250 : Int) < L.length) = true := by simp; omega
        go_wp2
        all_goals go_returns
        all_goals simp
      · have dC : decide ((250 : Int) < L.length) = false := by simp; omega
        have h4 : L.length ≤ 250 := by omega
        cases dD : decide (8192 < t) with
        | true =>
          go_wp2
          all_goals go_returns
          all_goals simp
        | false =>
          go_wp2
          all_goals go_returns
          all_goals simp [h4]
end Go.Proofs.YtkjdnebmhljciaaDoor
