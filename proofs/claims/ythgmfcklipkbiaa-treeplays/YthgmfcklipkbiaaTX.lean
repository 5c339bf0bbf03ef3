/- Towards the statements of package tree (layer 16): scripts, rows of numbers as arguments. -/
import Derived.Test.YthgmfcklipkbiaaTQ
import Derived.ChangeSlices
namespace Go.Proofs.Ythgmfcklipkbiaa
open Go.ChangeShapes Go.WideShapes Go.ChangeAt Go.RowKit
set_option linter.unusedVariables false
set_option linter.unusedSimpArgs false
set_option maxRecDepth 20000
theorem laidOut : laidOutB Try.prog = true := by kernel_rfl
theorem trodAll_stays {H : Type} {enc : TypeId × Value → H} {W W' : World} (hb : Below W.heap.size W W') {sp : Nat → Bool} : ∀ (ts : List TypeId) (vs : List Value) (ds : List (DataW H)) (ps : List MemPlace), (∀ t ∈ ts, Try.prog.readableRec t = true ∧ t < Try.prog.types.size) →
    DataW.TrodAll enc Try.prog W 0 (fun _ => true) true ts vs ds ps → (∀ x ∈ ps, x.block < W.heap.size) → (∀ x ∈ ps, sp x.block = true) → DataW.TrodAll enc Try.prog W' 0 sp true ts vs ds ps
  | [], vs, ds, ps, _, h, _, _ => by
    obtain ⟨rfl, rfl, rfl⟩ := trodAll_nil h
    exact trodAll_mk0
  | t :: ts, vs, ds, ps, hr, h, hlt, hs => by
    obtain ⟨v, vs', d, ds', p, q, rfl, rfl, rfl, h1, h2⟩ := trodAll_cons h
    exact trodAll_cons_mk (WideElems.Trod_stays laidOut (hr t (by simp)).1 (hr t (by simp)).2 h1 (fun x hx => hb.same (hlt x (by simp [hx]))) (fun x hx => hs x (by simp [hx])))
      (trodAll_stays hb ts vs' ds' q (fun t ht => hr t (by simp [ht])) h2 (fun x hx => hlt x (by simp [hx])) (fun x hx => hs x (by simp [hx])))
theorem post_bel {H : Type} {enc : TypeId × Value → H} {f : Func} {s : ChangeSpec} {fresh handsOn again : Bool} {W W' : World} {args : Array Value} {v : Value} {ds : List (DataW H)} {before : List MemPlace}
    (hrd : ∀ t ∈ f.params.toList, Try.prog.readableRec t = true ∧ t < Try.prog.types.size)
    (hW : DataW.Whole enc Try.prog f.params.toList s.vars false W args.toList ds [] before) (hvs : s.vars = [])
    (hres : ∀ (b : Nat) (sp : Nat → Bool) (hd : Bool), DataW.TrodAll enc Try.prog W' b sp hd f.resultTypes.toList (v.resultList f.resultTypes.size) (s.fn H (ds ++ [])).results [])
    (hargs : (s.fn H (ds ++ [])).args = ds) (hvars : ∀ sp : Nat → Bool, DataW.TrodVars enc Try.prog W' sp s.vars (s.fn H (ds ++ [])).vars [])
    (hb : Below W.heap.size W W')
    (hok : ∀ (j : Nat) (t : TypeId) (r : Value), f.resultTypes[j]? = some t → (v.resultList f.resultTypes.size)[j]? = some r → Value.okWide Try.prog W' .any 0 t r) :
    s.post enc Try.prog f false fresh handsOn again W args v W' := by
  have hlt : ∀ p ∈ before, p.block < W.heap.size := fun p hp => hW.lt p hp
  obtain ⟨p, q, hA, hV, hpq, hz, hn⟩ := id hW
  have hq : q = [] := by
    rw [hvs] at hV
    exact (trodVars_none hV).2
  subst hq
  rw [List.append_nil] at hpq
  subst hpq
  have key : ∀ sp : Nat → Bool, (∀ x ∈ before, sp x.block = true) → DataW.TrodAll enc Try.prog W' 0 sp true f.params.toList args.toList (s.fn H (ds ++ [])).args before := fun sp hs => by
    rw [hargs]
    exact trodAll_stays hb _ _ _ _ hrd hA hlt hs
  refine ⟨ds, [], before, [], before, [], hW, hres _ _ _, key _ (fun x hx => by simpa using hlt x hx), hvars _, World.keptBut_mono (fun p hp => ⟨hp, .inr (.inl hp)⟩) (hb.frame _), fun _ => ?_⟩
  refine ⟨hok, _, _, [] ++ before ++ [], ⟨[] ++ before, [], trodAll_append (key _ (fun _ _ => rfl)) (hres _ _ _), hvars _, rfl, ?_, ?_⟩, ?_⟩
  · intro b off hp
    have hp' : MemPlace.cell b off ∈ before := by simpa using hp
    rw [hb.frozen (p := ⟨b, off, none⟩) (hlt _ hp')]
    exact hz b off hp'
  · intro h; cases h
  · intro x hx _
    simpa using hx
/-- A step of a script: whether one goes, the place, the handle. -/
structure St where
  d : Bool
  i : Int
  k : HKey
structure StAt (w : World) (b o : Nat) (x : St) : Prop where
  c0 : w.cell? ⟨b, o, none⟩ = some (.bool x.d)
  c1 : w.cell? ⟨b, o + 1, none⟩ = some (.int .i64 x.i)
  c2 : w.cell? ⟨b, o + 2, none⟩ = some (.int .i64 x.k.1)
  c3 : w.cell? ⟨b, o + 3, none⟩ = some (.int .u64 x.k.2)
def Sts (w : World) (p : Option Addr) (L : List St) : Prop := L = [] ∨ ∃ b o, p = some ⟨b, o, none⟩ ∧ b < w.heap.size ∧ ∀ j x, L[j]? = some x → StAt w b (o + j * 4) x
def Row8 (w : World) (p : Option Addr) (C : List Int) : Prop := (∀ x ∈ C, 0 ≤ x ∧ x ≤ 255) ∧ (C = [] ∨ ∃ b o, p = some ⟨b, o, none⟩ ∧ b < w.heap.size ∧ ∀ j x, C[j]? = some x → w.cell? ⟨b, o + j, none⟩ = some (.int .u8 x))
def Row16 (w : World) (p : Option Addr) (C : List Int) : Prop := (∀ x ∈ C, 0 ≤ x ∧ x ≤ 65535) ∧ (C = [] ∨ ∃ b o, p = some ⟨b, o, none⟩ ∧ b < w.heap.size ∧ ∀ j x, C[j]? = some x → w.cell? ⟨b, o + j, none⟩ = some (.int .u16 x))
theorem Sts.below {w w' : World} {p : Option Addr} {L : List St} (h : Sts w p L) (hb : Below w.heap.size w w') : Sts w' p L := by
  rcases h with e | ⟨b, o, e, hl, hc⟩
  · exact .inl e
  · exact .inr ⟨b, o, e, Nat.lt_of_lt_of_le hl hb.size, fun j x hx => ⟨(hb.cell hl).trans (hc j x hx).c0, (hb.cell hl).trans (hc j x hx).c1, (hb.cell hl).trans (hc j x hx).c2, (hb.cell hl).trans (hc j x hx).c3⟩⟩
theorem Row8.below {w w' : World} {p : Option Addr} {C : List Int} (h : Row8 w p C) (hb : Below w.heap.size w w') : Row8 w' p C := by
  refine ⟨h.1, ?_⟩
  rcases h.2 with e | ⟨b, o, e, hl, hc⟩
  · exact .inl e
  · exact .inr ⟨b, o, e, Nat.lt_of_lt_of_le hl hb.size, fun j x hx => (hb.cell hl).trans (hc j x hx)⟩
theorem Row16.below {w w' : World} {p : Option Addr} {C : List Int} (h : Row16 w p C) (hb : Below w.heap.size w w') : Row16 w' p C := by
  refine ⟨h.1, ?_⟩
  rcases h.2 with e | ⟨b, o, e, hl, hc⟩
  · exact .inl e
  · exact .inr ⟨b, o, e, Nat.lt_of_lt_of_le hl hb.size, fun j x hx => (hb.cell hl).trans (hc j x hx)⟩
theorem cells36 : Try.prog.cellsOf 36 = 4 := by kernel_rfl
theorem cells34 : Try.prog.cellsOf 34 = 2 := by kernel_rfl
theorem cells47 : Try.prog.cellsOf 47 = 1 := by kernel_rfl
theorem cells5 : Try.prog.cellsOf 5 = 1 := by kernel_rfl
theorem cells4 : Try.prog.cellsOf 4 = 1 := by kernel_rfl
theorem cells3 : Try.prog.cellsOf 3 = 1 := by kernel_rfl
theorem cells32 : Try.prog.cellsOf 32 = 1 := by kernel_rfl
theorem wf_i64 {m : Int} (h : (Lit.int .i64 m).wf = true) : I64 m := by
  simpa [I64, Lit.wf, IntKind.min, IntKind.max, IntKind.signed, IntKind.bits] using h
theorem wf_u64 {m : Int} (h : (Lit.int .u64 m).wf = true) : 0 ≤ m ∧ m ≤ 18446744073709551615 := by
  simpa [Lit.wf, IntKind.min, IntKind.max, IntKind.signed, IntKind.bits] using h
theorem wf_u8 {m : Int} (h : (Lit.int .u8 m).wf = true) : 0 ≤ m ∧ m ≤ 255 := by
  simpa [Lit.wf, IntKind.min, IntKind.max, IntKind.signed, IntKind.bits] using h
theorem wf_u16 {m : Int} (h : (Lit.int .u16 m).wf = true) : 0 ≤ m ∧ m ≤ 65535 := by
  simpa [Lit.wf, IntKind.min, IntKind.max, IntKind.signed, IntKind.bits] using h
theorem cell_spot {w : World} {a : Addr} {v : Value} (h : w.cell? a = some v) : a.spot = none := by
  unfold World.cell? at h
  split at h
  · split at h
    · cases h
    · rename_i hs; simpa using hs
  · cases h
theorem add_of {a : Addr} (h : a.spot = none) (n : Nat) : a.add n = ⟨a.block, a.off + n, none⟩ := by
  cases a with | mk b o s =>
  simp only at h
  subst h
  unfold Addr.add
  split
  · rename_i e; subst e; rfl
  · rfl
theorem rows_of {α : Type} {Q : Nat → α → Prop} : ∀ n : Nat, (∀ i, i < n → ∃ x, Q i x) → ∃ L : List α, L.length = n ∧ ∀ j x, L[j]? = some x → Q j x
  | 0, _ => ⟨[], rfl, by simp⟩
  | n + 1, h => by
    obtain ⟨L, hl, hL⟩ := rows_of n fun i hi => h i (by omega)
    obtain ⟨x, hx⟩ := h n (by omega)
    refine ⟨L ++ [x], by simp [hl], fun j y hy => ?_⟩
    by_cases hj : j < n
    · rw [List.getElem?_append_left (by omega)] at hy
      exact hL j y hy
    · have hj2 : j = n := by
        have := (List.getElem?_eq_some_iff.1 hy).1
        simp at this; omega
      subst hj2
      rw [List.getElem?_append_right (by omega), hl] at hy
      simp at hy
      subst hy
      exact hx
theorem len2 {α : Type} {cs : List α} (h : cs.length = 2) : ∃ c0 c1, cs = [c0, c1] := by
  match cs, h with
  | [c0, c1], _ => exact ⟨c0, c1, rfl⟩
theorem len4 {α : Type} {cs : List α} (h : cs.length = 4) : ∃ c0 c1 c2 c3, cs = [c0, c1, c2, c3] := by
  match cs, h with
  | [c0, c1, c2, c3], _ => exact ⟨c0, c1, c2, c3, rfl⟩
section
variable {H : Type} {enc : TypeId × Value → H} {w : World} {spare : Nat → Bool} {held : Bool}
theorem open_hd {n : Nat} {cs : List Value} {y : DataW H × List MemPlace} (h : DataW.trod enc Try.prog w 0 spare held n 34 cs = some y) :
    ∃ x : HKey, cs = [.int .i64 x.1, .int .u64 x.2] := by
  obtain ⟨xs, m, _, hx, hcl, hlen, hi⟩ := DataW.trod_struct Try.underlying34 h
  obtain ⟨c0, c1, rfl⟩ := len2 (hcl.trans cells34)
  match xs, hlen with
  | [y0, y1], _ =>
    have h0 := hi 0 _ rfl
    simp [cells3, cells32] at h0
    obtain ⟨m0, f0, -, w0⟩ := DataW.trod_int Try.underlying3 h0
    have h1 := hi 1 _ rfl
    simp [cells3, cells32] at h1
    obtain ⟨m1, f1, -, w1⟩ := DataW.trod_int Try.underlying32 h1
    simp at f0 f1
    subst f0 f1
    have := wf_u64 w1
    exact ⟨(m0, m1.toNat), by simp; omega⟩
theorem open_one {n : Nat} {cs : List Value} {y : DataW H × List MemPlace} (h : DataW.trod enc Try.prog w 0 spare held n 36 cs = some y) :
    ∃ x : St, cs = [.bool x.d, .int .i64 x.i, .int .i64 x.k.1, .int .u64 x.k.2] := by
  obtain ⟨xs, m, _, hx, hcl, hlen, hi⟩ := DataW.trod_struct Try.underlying36 h
  obtain ⟨c0, c1, c2, c3, rfl⟩ := len4 (hcl.trans cells36)
  match xs, hlen with
  | [y0, y1, y2], _ =>
    have h0 := hi 0 _ rfl
    simp [cells4, cells3, cells34] at h0
    obtain ⟨m0, f0, -⟩ := DataW.trod_bool Try.underlying4 h0
    have h1 := hi 1 _ rfl
    simp [cells4, cells3, cells34] at h1
    obtain ⟨m1, f1, -⟩ := DataW.trod_int Try.underlying3 h1
    have h2 := hi 2 _ rfl
    simp [cells4, cells3, cells34] at h2
    obtain ⟨k, f2⟩ := open_hd h2
    simp at f0 f1 f2
    obtain ⟨f2, f2'⟩ := f2
    subst f0 f1 f2 f2'
    exact ⟨⟨m0, m1, k⟩, rfl⟩
theorem open_sts {r : Reach} {b0 : Nat} {v : Value} {d : DataW H} {p : List MemPlace} (hv : Value.okWide Try.prog w r b0 22 v) (h : DataW.Trod enc Try.prog w 0 spare held 22 v d p) :
    ∃ (a : Option Addr) (L : List St) (cap : Nat), v = .slice a L.length cap ∧ Sts w a L := by
  obtain ⟨a, len, cap, rfl⟩ := okWide_slice Try.underlying22 hv
  obtain ⟨fuel, hf⟩ := h
  rcases DataW.trod_slice Try.underlying22 hf with ⟨h0, _⟩ | ⟨a', len', cap', elems, rest, n, _, h0, _, _, _, _, hel, hget, _⟩
  · simp [Value.cells] at h0
    obtain ⟨rfl, rfl, rfl⟩ := h0
    exact ⟨none, [], 0, rfl, .inl rfl⟩
  · simp [Value.cells] at h0
    obtain ⟨rfl, rfl, rfl⟩ := h0
    have each : ∀ i, i < len → ∃ x : St, a'.spot = none ∧ StAt w a'.block (a'.off + i * 4) x ∧ a'.block < w.heap.size := by
      intro i hi
      have h1 := hget i hi
      rw [List.getElem?_eq_getElem (by omega), Option.bind_eq_some_iff] at h1
      obtain ⟨cs, hcs, ht⟩ := h1
      obtain ⟨x, rfl⟩ := open_one ht
      rw [cells36] at hcs
      obtain ⟨_, _, hc⟩ := World.cells?_some hcs
      have g0 := hc 0 (by omega)
      have g1 := hc 1 (by omega)
      have g2 := hc 2 (by omega)
      have g3 := hc 3 (by omega)
      simp only [List.getElem?_cons_zero, List.getElem?_cons_succ] at g0 g1 g2 g3
      have hsp : a'.spot = none := by
        have h1 := hget 0 (by omega)
        rw [List.getElem?_eq_getElem (by omega), Option.bind_eq_some_iff] at h1
        obtain ⟨cs, hcs, ht⟩ := h1
        obtain ⟨x, rfl⟩ := open_one ht
        rw [cells36] at hcs
        have g0 := (World.cells?_some hcs).2.2 0 (by omega)
        simp only [List.getElem?_cons_zero] at g0
        have hs := cell_spot g0
        simpa [Addr.add] using hs
      refine ⟨x, hsp, ?_, ?_⟩
      · rw [add_of hsp] at g0 g1 g2 g3
        rw [add_of rfl] at g0 g1 g2 g3
        exact ⟨g0, g1, g2, g3⟩
      · rw [add_of hsp, add_of rfl] at g0
        exact cell_lt (p := ⟨a'.block, _, none⟩) g0
    obtain ⟨L, hl, hL⟩ := rows_of len each
    subst hl
    refine ⟨some a', L, cap, rfl, ?_⟩
    by_cases h0 : L.length = 0
    · exact .inl (List.eq_nil_of_length_eq_zero h0)
    · obtain ⟨x, hx⟩ : ∃ x, L[0]? = some x := ⟨L[0]'(by omega), List.getElem?_eq_getElem _⟩
      obtain ⟨hsp, _, hlt⟩ := hL 0 x hx
      refine .inr ⟨a'.block, a'.off, ?_, hlt, fun j x hx => (hL j x hx).2.1⟩
      have : a' = ⟨a'.block, a'.off, none⟩ := by cases a'; simp at hsp; rw [hsp]
      rw [← this]
theorem open_row8 {r : Reach} {b0 : Nat} {v : Value} {d : DataW H} {p : List MemPlace} (hv : Value.okWide Try.prog w r b0 55 v) (h : DataW.Trod enc Try.prog w 0 (fun _ => true) held 55 v d p) :
    ∃ (a : Option Addr) (C : List Int) (cap : Nat), v = .slice a C.length cap ∧ Row8 w a C := by
  obtain ⟨a, len, cap, rfl⟩ := okWide_slice Try.underlying55 hv
  obtain ⟨fuel, hf⟩ := h
  rcases open_ints Try.underlying55 Try.underlying5 cells5 hf with ⟨h0, _⟩ | ⟨a', len', cap', zs, h0, _, hlc, hm, hz, _, hcell, hwz⟩
  · simp [Value.cells] at h0
    obtain ⟨rfl, rfl, rfl⟩ := h0
    exact ⟨none, [], 0, rfl, by simp, .inl rfl⟩
  · simp [Value.cells] at h0
    obtain ⟨rfl, rfl, rfl⟩ := h0
    simp only [if_true] at hz
    have hlen : (zs.take len).length = len := by rw [List.length_take]; omega
    refine ⟨some a', zs.take len, cap, by rw [hlen], fun x hx => wf_u8 (hwz x (List.mem_of_mem_take hx)), ?_⟩
    by_cases h0 : len = 0
    · exact .inl (List.eq_nil_of_length_eq_zero (by omega))
    · have g0 := hcell 0 (by omega)
      have hsp : a'.spot = none := by have := cell_spot g0; simpa [Addr.add] using this
      refine .inr ⟨a'.block, a'.off, ?_, ?_, fun j x hx => ?_⟩
      · have : a' = ⟨a'.block, a'.off, none⟩ := by cases a'; simp at hsp; rw [hsp]
        rw [← this]
      · rw [add_of hsp] at g0
        exact cell_lt (p := ⟨a'.block, _, none⟩) g0
      · have hj := (List.getElem?_eq_some_iff.1 hx).1
        have g := hcell j (by omega)
        rw [add_of hsp] at g
        rw [List.getElem?_take, if_pos (by omega)] at hx
        rw [List.getD, hx] at g
        exact g
theorem open_row16 {r : Reach} {b0 : Nat} {v : Value} {d : DataW H} {p : List MemPlace} (hv : Value.okWide Try.prog w r b0 48 v) (h : DataW.Trod enc Try.prog w 0 (fun _ => true) held 48 v d p) :
    ∃ (a : Option Addr) (C : List Int) (cap : Nat), v = .slice a C.length cap ∧ Row16 w a C := by
  obtain ⟨a, len, cap, rfl⟩ := okWide_slice Try.underlying48 hv
  obtain ⟨fuel, hf⟩ := h
  rcases open_ints Try.underlying48 Try.underlying47 cells47 hf with ⟨h0, _⟩ | ⟨a', len', cap', zs, h0, _, hlc, hm, hz, _, hcell, hwz⟩
  · simp [Value.cells] at h0
    obtain ⟨rfl, rfl, rfl⟩ := h0
    exact ⟨none, [], 0, rfl, by simp, .inl rfl⟩
  · simp [Value.cells] at h0
    obtain ⟨rfl, rfl, rfl⟩ := h0
    simp only [if_true] at hz
    have hlen : (zs.take len).length = len := by rw [List.length_take]; omega
    refine ⟨some a', zs.take len, cap, by rw [hlen], fun x hx => wf_u16 (hwz x (List.mem_of_mem_take hx)), ?_⟩
    by_cases h0 : len = 0
    · exact .inl (List.eq_nil_of_length_eq_zero (by omega))
    · have g0 := hcell 0 (by omega)
      have hsp : a'.spot = none := by have := cell_spot g0; simpa [Addr.add] using this
      refine .inr ⟨a'.block, a'.off, ?_, ?_, fun j x hx => ?_⟩
      · have : a' = ⟨a'.block, a'.off, none⟩ := by cases a'; simp at hsp; rw [hsp]
        rw [← this]
      · rw [add_of hsp] at g0
        exact cell_lt (p := ⟨a'.block, _, none⟩) g0
      · have hj := (List.getElem?_eq_some_iff.1 hx).1
        have g := hcell j (by omega)
        rw [add_of hsp] at g
        rw [List.getElem?_take, if_pos (by omega)] at hx
        rw [List.getD, hx] at g
        exact g
end
theorem idxS {w : World} {p : Option Addr} {L : List St} (h : Sts w p L) {i : Nat} (hi : i < L.length) : ∃ b o x, L[i]? = some x ∧ StAt w b o x ∧ b < w.heap.size ∧ ∀ c W, (Instr.indexAt 22 (.slice p L.length c) (.int .i64 i)).run Try.prog W = .ok (.pointer (some ⟨b, o, none⟩)) W := by
  rcases h with e | ⟨b, o, rfl, hb, h⟩
  · subst e; simp at hi
  · refine ⟨b, o + i * 4, L[i], List.getElem?_eq_getElem hi, h i _ (List.getElem?_eq_getElem hi), hb, fun c W => ?_⟩
    have hi2 : (i : Int) < L.length := by omega
    simp [go_sem, hi]
theorem idx8 {w : World} {p : Option Addr} {C : List Int} (h : Row8 w p C) {i : Nat} (hi : i < C.length) : ∃ b o x, C[i]? = some x ∧ w.cell? ⟨b, o, none⟩ = some (.int .u8 x) ∧ (0 ≤ x ∧ x ≤ 255) ∧ b < w.heap.size ∧ ∀ c W, (Instr.indexAt 55 (.slice p C.length c) (.int .i64 i)).run Try.prog W = .ok (.pointer (some ⟨b, o, none⟩)) W := by
  obtain ⟨h1, e | ⟨b, o, rfl, hb, h⟩⟩ := h
  · subst e; simp at hi
  · refine ⟨b, o + i, C[i], List.getElem?_eq_getElem hi, h i _ (List.getElem?_eq_getElem hi), h1 _ (List.getElem_mem hi), hb, fun c W => ?_⟩
    have hi2 : (i : Int) < C.length := by omega
    simp [go_sem, hi]
theorem idx16 {w : World} {p : Option Addr} {C : List Int} (h : Row16 w p C) {i : Nat} (hi : i < C.length) : ∃ b o x, C[i]? = some x ∧ w.cell? ⟨b, o, none⟩ = some (.int .u16 x) ∧ (0 ≤ x ∧ x ≤ 65535) ∧ b < w.heap.size ∧ ∀ c W, (Instr.indexAt 48 (.slice p C.length c) (.int .i64 i)).run Try.prog W = .ok (.pointer (some ⟨b, o, none⟩)) W := by
  obtain ⟨h1, e | ⟨b, o, rfl, hb, h⟩⟩ := h
  · subst e; simp at hi
  · refine ⟨b, o + i, C[i], List.getElem?_eq_getElem hi, h i _ (List.getElem?_eq_getElem hi), h1 _ (List.getElem_mem hi), hb, fun c W => ?_⟩
    have hi2 : (i : Int) < C.length := by omega
    simp [go_sem, hi]
end Go.Proofs.Ythgmfcklipkbiaa
