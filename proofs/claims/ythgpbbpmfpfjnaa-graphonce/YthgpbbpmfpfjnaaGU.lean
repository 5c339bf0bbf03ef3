/- Towards the statements of package graph (layer 17): scripts, places as arguments. -/
import Derived.Test.YthgpbbpmfpfjnaaGT
import Derived.ChangeSlices
namespace Go.Proofs.Ythgpbbpmfpfjnaa
open Go.ChangeShapes Go.WideShapes Go.ChangeAt Go.RowKit
set_option linter.unusedVariables false
set_option linter.unusedSimpArgs false
set_option maxRecDepth 20000
theorem laidOut : laidOutB Try.prog = true := by kernel_rfl
theorem trodAll_stays {H : Type} {enc : TypeId × Value → H} {W W' : World} (hb : Below W.heap.size W W') {sp : Nat → Bool} : ∀ (ts : List TypeId) (vs : List Value) (ds : List (DataW H)) (ps : List MemPlace), (∀ t ∈ ts, Try.prog.readableRec t = true ∧ t < Try.prog.types.size) →
    DataW.TrodAll enc Try.prog W 0 (fun _ => true) true ts vs ds ps → (∀ x ∈ ps, x.block < W.heap.size) → (∀ x ∈ ps, sp x.block = true) → DataW.TrodAll enc Try.prog W' 0 sp true ts vs ds ps
  | [], vs, ds, ps, _, h, _, _ => by
    obtain ⟨rfl, rfl, rfl⟩ := trodAll_nil h
    exact trodAll_mk0
  | t :: ts, vs, ds, ps, hr, h, hlt, hs => by
    obtain ⟨v, vs', d, ds', p, q, rfl, rfl, rfl, h1, h2⟩ := trodAll_cons h
    exact trodAll_cons_mk (WideElems.Trod_stays laidOut (hr t (by simp)).1 (hr t (by simp)).2 h1 (fun x hx => hb.same (hlt x (by simp [hx]))) (fun x hx => hs x (by simp [hx])))
      (trodAll_stays hb ts vs' ds' q (fun t ht => hr t (by simp [ht])) h2 (fun x hx => hlt x (by simp [hx])) (fun x hx => hs x (by simp [hx])))
theorem post_bel {H : Type} {enc : TypeId × Value → H} {f : Func} {s : ChangeSpec} {fresh handsOn again : Bool} {W W' : World} {args : Array Value} {v : Value} {ds : List (DataW H)} {before : List MemPlace}
    (hrd : ∀ t ∈ f.params.toList, Try.prog.readableRec t = true ∧ t < Try.prog.types.size)
    (hW : DataW.Whole enc Try.prog f.params.toList s.vars false W args.toList ds [] before) (hvs : s.vars = [])
    (hres : ∀ (b : Nat) (sp : Nat → Bool) (hd : Bool), DataW.TrodAll enc Try.prog W' b sp hd f.resultTypes.toList (v.resultList f.resultTypes.size) (s.fn H (ds ++ [])).results [])
    (hargs : (s.fn H (ds ++ [])).args = ds) (hvars : ∀ sp : Nat → Bool, DataW.TrodVars enc Try.prog W' sp s.vars (s.fn H (ds ++ [])).vars [])
    (hb : Below W.heap.size W W')
    (hok : ∀ (j : Nat) (t : TypeId) (r : Value), f.resultTypes[j]? = some t → (v.resultList f.resultTypes.size)[j]? = some r → Value.okWide Try.prog W' .any 0 t r) :
    s.post enc Try.prog f false fresh handsOn again W args v W' := by
  have hlt : ∀ p ∈ before, p.block < W.heap.size := fun p hp => hW.lt p hp
  obtain ⟨p, q, hA, hV, hpq, hz, hn⟩ := id hW
  have hq : q = [] := by
    rw [hvs] at hV
    exact (trodVars_none hV).2
  subst hq
  rw [List.append_nil] at hpq
  subst hpq
  have key : ∀ sp : Nat → Bool, (∀ x ∈ before, sp x.block = true) → DataW.TrodAll enc Try.prog W' 0 sp true f.params.toList args.toList (s.fn H (ds ++ [])).args before := fun sp hs => by
    rw [hargs]
    exact trodAll_stays hb _ _ _ _ hrd hA hlt hs
  refine ⟨ds, [], before, [], before, [], hW, hres _ _ _, key _ (fun x hx => by simpa using hlt x hx), hvars _, World.keptBut_mono (fun p hp => ⟨hp, .inr (.inl hp)⟩) (hb.frame _), fun _ => ?_⟩
  refine ⟨hok, _, _, [] ++ before ++ [], ⟨[] ++ before, [], trodAll_append (key _ (fun _ _ => rfl)) (hres _ _ _), hvars _, rfl, ?_, ?_⟩, ?_⟩
  · intro b off hp
    have hp' : MemPlace.cell b off ∈ before := by simpa using hp
    rw [hb.frozen (p := ⟨b, off, none⟩) (hlt _ hp')]
    exact hz b off hp'
  · intro h; cases h
  · intro x hx _
    simpa using hx
/-- A step of a script: what is done, where in a tree, by which node, at which place, the handle, at which end. -/
structure St where
  d : Int
  i : Int
  n : Int
  p : PKey
  k : HKey
  q : Bool
structure StAt (w : World) (b o : Nat) (x : St) : Prop where
  c0 : w.cell? ⟨b, o, none⟩ = some (.int .i64 x.d)
  c1 : w.cell? ⟨b, o + 1, none⟩ = some (.int .i64 x.i)
  c2 : w.cell? ⟨b, o + 2, none⟩ = some (.int .i64 x.n)
  c3 : w.cell? ⟨b, o + 3, none⟩ = some (.int .i64 x.p.1)
  c4 : w.cell? ⟨b, o + 4, none⟩ = some (.int .i64 x.p.2.1)
  c5 : w.cell? ⟨b, o + 5, none⟩ = some (.int .i64 x.p.2.2)
  c6 : w.cell? ⟨b, o + 6, none⟩ = some (.int .i64 x.k.1)
  c7 : w.cell? ⟨b, o + 7, none⟩ = some (.int .u64 x.k.2)
  c8 : w.cell? ⟨b, o + 8, none⟩ = some (.bool x.q)
def Sts (w : World) (p : Option Addr) (L : List St) : Prop := (∀ x ∈ L, I64 x.p.1 ∧ I64 x.k.1) ∧ (L = [] ∨ ∃ b o, p = some ⟨b, o, none⟩ ∧ b < w.heap.size ∧ ∀ j x, L[j]? = some x → StAt w b (o + j * 9) x)
theorem StAt.below {w w' : World} {b o : Nat} {x : St} (s : StAt w b o x) (hl : b < w.heap.size) (hb : Below w.heap.size w w') : StAt w' b o x :=
  ⟨(hb.cell hl).trans s.c0, (hb.cell hl).trans s.c1, (hb.cell hl).trans s.c2, (hb.cell hl).trans s.c3, (hb.cell hl).trans s.c4, (hb.cell hl).trans s.c5, (hb.cell hl).trans s.c6, (hb.cell hl).trans s.c7, (hb.cell hl).trans s.c8⟩
theorem Sts.below {w w' : World} {p : Option Addr} {L : List St} (h : Sts w p L) (hb : Below w.heap.size w w') : Sts w' p L := by
  obtain ⟨h0, h⟩ := h
  refine ⟨h0, ?_⟩
  rcases h with e | ⟨b, o, e, hl, h⟩
  · exact .inl e
  · exact .inr ⟨b, o, e, Nat.lt_of_lt_of_le hl hb.size, fun j x hx => (h j x hx).below hl hb⟩
theorem cells33 : Try.prog.cellsOf 33 = 9 := by kernel_rfl
theorem cells28 : Try.prog.cellsOf 28 = 3 := by kernel_rfl
theorem cells31 : Try.prog.cellsOf 31 = 2 := by kernel_rfl
theorem cells4 : Try.prog.cellsOf 4 = 1 := by kernel_rfl
theorem cells3 : Try.prog.cellsOf 3 = 1 := by kernel_rfl
theorem cells29 : Try.prog.cellsOf 29 = 1 := by kernel_rfl
theorem wf_i64 {m : Int} (h : (Lit.int .i64 m).wf = true) : I64 m := by
  simpa [I64, Lit.wf, IntKind.min, IntKind.max, IntKind.signed, IntKind.bits] using h
theorem wf_u64 {m : Int} (h : (Lit.int .u64 m).wf = true) : 0 ≤ m ∧ m ≤ 18446744073709551615 := by
  simpa [Lit.wf, IntKind.min, IntKind.max, IntKind.signed, IntKind.bits] using h
theorem wf_u8 {m : Int} (h : (Lit.int .u8 m).wf = true) : 0 ≤ m ∧ m ≤ 255 := by
  simpa [Lit.wf, IntKind.min, IntKind.max, IntKind.signed, IntKind.bits] using h
theorem wf_u16 {m : Int} (h : (Lit.int .u16 m).wf = true) : 0 ≤ m ∧ m ≤ 65535 := by
  simpa [Lit.wf, IntKind.min, IntKind.max, IntKind.signed, IntKind.bits] using h
theorem cell_spot {w : World} {a : Addr} {v : Value} (h : w.cell? a = some v) : a.spot = none := by
  unfold World.cell? at h
  split at h
  · split at h
    · cases h
    · rename_i hs; simpa using hs
  · cases h
theorem add_of {a : Addr} (h : a.spot = none) (n : Nat) : a.add n = ⟨a.block, a.off + n, none⟩ := by
  cases a with | mk b o s =>
  simp only at h
  subst h
  unfold Addr.add
  split
  · rename_i e; subst e; rfl
  · rfl
theorem rows_of {α : Type} {Q : Nat → α → Prop} : ∀ n : Nat, (∀ i, i < n → ∃ x, Q i x) → ∃ L : List α, L.length = n ∧ ∀ j x, L[j]? = some x → Q j x
  | 0, _ => ⟨[], rfl, by simp⟩
  | n + 1, h => by
    obtain ⟨L, hl, hL⟩ := rows_of n fun i hi => h i (by omega)
    obtain ⟨x, hx⟩ := h n (by omega)
    refine ⟨L ++ [x], by simp [hl], fun j y hy => ?_⟩
    by_cases hj : j < n
    · rw [List.getElem?_append_left (by omega)] at hy
      exact hL j y hy
    · have hj2 : j = n := by
        have := (List.getElem?_eq_some_iff.1 hy).1
        simp at this; omega
      subst hj2
      rw [List.getElem?_append_right (by omega), hl] at hy
      simp at hy
      subst hy
      exact hx
theorem len2 {α : Type} {cs : List α} (h : cs.length = 2) : ∃ c0 c1, cs = [c0, c1] := by
  match cs, h with
  | [c0, c1], _ => exact ⟨c0, c1, rfl⟩
theorem len3 {α : Type} {cs : List α} (h : cs.length = 3) : ∃ c0 c1 c2, cs = [c0, c1, c2] := by
  match cs, h with
  | [c0, c1, c2], _ => exact ⟨c0, c1, c2, rfl⟩
theorem len9 {α : Type} {cs : List α} (h : cs.length = 9) : ∃ c0 c1 c2 c3 c4 c5 c6 c7 c8, cs = [c0, c1, c2, c3, c4, c5, c6, c7, c8] := by
  match cs, h with
  | [c0, c1, c2, c3, c4, c5, c6, c7, c8], _ => exact ⟨c0, c1, c2, c3, c4, c5, c6, c7, c8, rfl⟩
section
variable {H : Type} {enc : TypeId × Value → H} {w : World} {spare : Nat → Bool} {held : Bool}
theorem open_hd {n : Nat} {cs : List Value} {y : DataW H × List MemPlace} (h : DataW.trod enc Try.prog w 0 spare held n 31 cs = some y) :
    ∃ x : HKey, cs = [.int .i64 x.1, .int .u64 x.2] ∧ I64 x.1 := by
  obtain ⟨xs, m, _, hx, hcl, hlen, hi⟩ := DataW.trod_struct Try.underlying31 h
  obtain ⟨c0, c1, rfl⟩ := len2 (hcl.trans cells31)
  match xs, hlen with
  | [y0, y1], _ =>
    have h0 := hi 0 _ rfl
    simp [cells3, cells29] at h0
    obtain ⟨m0, f0, -, w0⟩ := DataW.trod_int Try.underlying3 h0
    have h1 := hi 1 _ rfl
    simp [cells3, cells29] at h1
    obtain ⟨m1, f1, -, w1⟩ := DataW.trod_int Try.underlying29 h1
    simp at f0 f1
    subst f0 f1
    have := wf_u64 w1
    exact ⟨(m0, m1.toNat), by simp; omega, wf_i64 w0⟩
theorem open_pl {n : Nat} {cs : List Value} {y : DataW H × List MemPlace} (h : DataW.trod enc Try.prog w 0 spare held n 28 cs = some y) :
    ∃ x : PKey, cs = [.int .i64 x.1, .int .i64 x.2.1, .int .i64 x.2.2] ∧ I64 x.1 := by
  obtain ⟨xs, m, _, hx, hcl, hlen, hi⟩ := DataW.trod_struct Try.underlying28 h
  obtain ⟨c0, c1, c2, rfl⟩ := len3 (hcl.trans cells28)
  match xs, hlen with
  | [y0, y1, y2], _ =>
    have h0 := hi 0 _ rfl
    simp [cells3] at h0
    obtain ⟨m0, f0, -, w0⟩ := DataW.trod_int Try.underlying3 h0
    have h1 := hi 1 _ rfl
    simp [cells3] at h1
    obtain ⟨m1, f1, -, w1⟩ := DataW.trod_int Try.underlying3 h1
    have h2 := hi 2 _ rfl
    simp [cells3] at h2
    obtain ⟨m2, f2, -, w2⟩ := DataW.trod_int Try.underlying3 h2
    simp at f0 f1 f2
    subst f0 f1 f2
    exact ⟨(m0, m1, m2), rfl, wf_i64 w0⟩
theorem open_one {n : Nat} {cs : List Value} {y : DataW H × List MemPlace} (h : DataW.trod enc Try.prog w 0 spare held n 33 cs = some y) :
    ∃ x : St, cs = [.int .i64 x.d, .int .i64 x.i, .int .i64 x.n, .int .i64 x.p.1, .int .i64 x.p.2.1, .int .i64 x.p.2.2, .int .i64 x.k.1, .int .u64 x.k.2, .bool x.q] ∧ I64 x.p.1 ∧ I64 x.k.1 := by
  obtain ⟨xs, m, _, hx, hcl, hlen, hi⟩ := DataW.trod_struct Try.underlying33 h
  obtain ⟨c0, c1, c2, c3, c4, c5, c6, c7, c8, rfl⟩ := len9 (hcl.trans cells33)
  match xs, hlen with
  | [y0, y1, y2, y3, y4, y5], _ =>
    have h0 := hi 0 _ rfl
    simp [cells4, cells3, cells28, cells31] at h0
    obtain ⟨m0, f0, -⟩ := DataW.trod_int Try.underlying3 h0
    have h1 := hi 1 _ rfl
    simp [cells4, cells3, cells28, cells31] at h1
    obtain ⟨m1, f1, -⟩ := DataW.trod_int Try.underlying3 h1
    have h2 := hi 2 _ rfl
    simp [cells4, cells3, cells28, cells31] at h2
    obtain ⟨m2, f2, -⟩ := DataW.trod_int Try.underlying3 h2
    have h3 := hi 3 _ rfl
    simp [cells4, cells3, cells28, cells31] at h3
    obtain ⟨p, f3, wp⟩ := open_pl h3
    have h4 := hi 4 _ rfl
    simp [cells4, cells3, cells28, cells31] at h4
    obtain ⟨k, f4, wk⟩ := open_hd h4
    have h5 := hi 5 _ rfl
    simp [cells4, cells3, cells28, cells31] at h5
    obtain ⟨q, f5, -⟩ := DataW.trod_bool Try.underlying4 h5
    simp at f0 f1 f2 f3 f4 f5
    obtain ⟨f3, f3', f3''⟩ := f3
    obtain ⟨f4, f4'⟩ := f4
    subst f0 f1 f2 f3 f3' f3'' f4 f4' f5
    exact ⟨⟨m0, m1, m2, p, k, q⟩, rfl, wp, wk⟩
theorem open_sts {r : Reach} {b0 : Nat} {v : Value} {d : DataW H} {p : List MemPlace} (hv : Value.okWide Try.prog w r b0 22 v) (h : DataW.Trod enc Try.prog w 0 spare held 22 v d p) :
    ∃ (a : Option Addr) (L : List St) (cap : Nat), v = .slice a L.length cap ∧ Sts w a L := by
  obtain ⟨a, len, cap, rfl⟩ := okWide_slice Try.underlying22 hv
  obtain ⟨fuel, hf⟩ := h
  rcases DataW.trod_slice Try.underlying22 hf with ⟨h0, _⟩ | ⟨a', len', cap', elems, rest, n, _, h0, _, _, _, _, hel, hget, _⟩
  · simp [Value.cells] at h0
    obtain ⟨rfl, rfl, rfl⟩ := h0
    exact ⟨none, [], 0, rfl, by simp, .inl rfl⟩
  · simp [Value.cells] at h0
    obtain ⟨rfl, rfl, rfl⟩ := h0
    have each : ∀ i, i < len → ∃ x : St, a'.spot = none ∧ StAt w a'.block (a'.off + i * 9) x ∧ a'.block < w.heap.size ∧ I64 x.p.1 ∧ I64 x.k.1 := by
      intro i hi
      have h1 := hget i hi
      rw [List.getElem?_eq_getElem (by omega), Option.bind_eq_some_iff] at h1
      obtain ⟨cs, hcs, ht⟩ := h1
      obtain ⟨x, rfl, wx⟩ := open_one ht
      rw [cells33] at hcs
      obtain ⟨_, _, hc⟩ := World.cells?_some hcs
      have g0 := hc 0 (by omega)
      have g1 := hc 1 (by omega)
      have g2 := hc 2 (by omega)
      have g3 := hc 3 (by omega)
      have g4 := hc 4 (by omega)
      have g5 := hc 5 (by omega)
      have g6 := hc 6 (by omega)
      have g7 := hc 7 (by omega)
      have g8 := hc 8 (by omega)
      simp only [List.getElem?_cons_zero, List.getElem?_cons_succ] at g0 g1 g2 g3 g4 g5 g6 g7 g8
      have hsp : a'.spot = none := by
        have h1 := hget 0 (by omega)
        rw [List.getElem?_eq_getElem (by omega), Option.bind_eq_some_iff] at h1
        obtain ⟨cs, hcs, ht⟩ := h1
        obtain ⟨x, rfl, _⟩ := open_one ht
        rw [cells33] at hcs
        have g0 := (World.cells?_some hcs).2.2 0 (by omega)
        simp only [List.getElem?_cons_zero] at g0
        have hs := cell_spot g0
        simpa [Addr.add] using hs
      refine ⟨x, hsp, ?_, ?_, wx⟩
      · rw [add_of hsp] at g0 g1 g2 g3 g4 g5 g6 g7 g8
        rw [add_of rfl] at g0 g1 g2 g3 g4 g5 g6 g7 g8
        exact ⟨g0, g1, g2, g3, g4, g5, g6, g7, g8⟩
      · rw [add_of hsp, add_of rfl] at g0
        exact cell_lt (p := ⟨a'.block, _, none⟩) g0
    obtain ⟨L, hl, hL⟩ := rows_of len each
    subst hl
    refine ⟨some a', L, cap, rfl, fun x hx => by obtain ⟨j, hj⟩ := List.getElem?_of_mem hx; exact (hL j x hj).2.2.2, ?_⟩
    by_cases h0 : L.length = 0
    · exact .inl (List.eq_nil_of_length_eq_zero h0)
    · obtain ⟨x, hx⟩ : ∃ x, L[0]? = some x := ⟨L[0]'(by omega), List.getElem?_eq_getElem _⟩
      obtain ⟨hsp, _, hlt, _⟩ := hL 0 x hx
      refine .inr ⟨a'.block, a'.off, ?_, hlt, fun j x hx => (hL j x hx).2.1⟩
      have : a' = ⟨a'.block, a'.off, none⟩ := by cases a'; simp at hsp; rw [hsp]
      rw [← this]
theorem open_plv {r : Reach} {b0 : Nat} {v : Value} {d : DataW H} {p : List MemPlace} (hv : Value.okWide Try.prog w r b0 28 v) (h : DataW.Trod enc Try.prog w 0 spare held 28 v d p) :
    ∃ a b g : Int, v = .agg #[.int .i64 a, .int .i64 b, .int .i64 g] := by
  obtain ⟨cs, rfl, hsz⟩ := okWide_struct Try.underlying28 hv
  obtain ⟨fuel, hf⟩ := h
  obtain ⟨x, hx, _⟩ := open_pl hf
  refine ⟨x.1, x.2.1, x.2.2, ?_⟩
  have : cs.toList = [.int .i64 x.1, .int .i64 x.2.1, .int .i64 x.2.2] := by simpa [Value.cells] using hx
  rw [← this]
end
theorem idxS {w : World} {p : Option Addr} {L : List St} (h : Sts w p L) {i : Nat} (hi : i < L.length) : ∃ b o x, L[i]? = some x ∧ StAt w b o x ∧ b < w.heap.size ∧ (I64 x.p.1 ∧ I64 x.k.1) ∧ ∀ c W, (Instr.indexAt 22 (.slice p L.length c) (.int .i64 i)).run Try.prog W = .ok (.pointer (some ⟨b, o, none⟩)) W := by
  obtain ⟨h0, e | ⟨b, o, rfl, hb, h⟩⟩ := h
  · subst e; simp at hi
  · refine ⟨b, o + i * 9, L[i], List.getElem?_eq_getElem hi, h i _ (List.getElem?_eq_getElem hi), hb, h0 _ (List.getElem_mem hi), fun c W => ?_⟩
    have hi2 : (i : Int) < L.length := by omega
    simp [go_sem, hi]
end Go.Proofs.Ythgpbbpmfpfjnaa
