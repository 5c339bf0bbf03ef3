/- Towards the statements of package code (layer 8): programs and rows of bytes as arguments, opened and shut. -/
import Derived.Test.YtdmdmbcapjmnlabDB
import Derived.WalkKit
import Derived.ProofKit
import Derived.OpenShut
import Derived.ShutString
import Derived.Carry
import Derived.ChangeSlices
namespace Go.Proofs.Ytdmdmbcapjmnlab
open Go.ChangeShapes Go.WideShapes Go.ChangeAt Go.RowKit
set_option linter.unusedVariables false
set_option linter.unusedSimpArgs false
set_option maxRecDepth 20000
theorem laidOut : laidOutB Try.prog = true := by kernel_rfl
theorem cells53 : Try.prog.cellsOf 30 = 5 := by kernel_rfl
theorem cells5 : Try.prog.cellsOf 5 = 1 := by kernel_rfl
theorem cells51 : Try.prog.cellsOf 28 = 1 := by kernel_rfl
theorem cells21 : Try.prog.cellsOf 21 = 1 := by kernel_rfl
theorem wf_u8 {m : Int} (h : (Lit.int .u8 m).wf = true) : 0 ≤ m ∧ m ≤ 255 := by
  simpa [Lit.wf, IntKind.min, IntKind.max, IntKind.signed, IntKind.bits] using h
theorem wf_i16 {m : Int} (h : (Lit.int .i16 m).wf = true) : -32768 ≤ m ∧ m ≤ 32767 := by
  simpa [Lit.wf, IntKind.min, IntKind.max, IntKind.signed, IntKind.bits] using h
theorem wf_i32 {m : Int} (h : (Lit.int .i32 m).wf = true) : -2147483648 ≤ m ∧ m ≤ 2147483647 := by
  simpa [Lit.wf, IntKind.min, IntKind.max, IntKind.signed, IntKind.bits] using h
theorem cell_spot {w : World} {a : Addr} {v : Value} (h : w.cell? a = some v) : a.spot = none := by
  unfold World.cell? at h
  split at h
  · split at h
    · cases h
    · rename_i hs; simpa using hs
  · cases h
theorem add_of {a : Addr} (h : a.spot = none) (n : Nat) : a.add n = ⟨a.block, a.off + n, none⟩ := by
  cases a with | mk b o s =>
  simp only at h
  subst h
  unfold Addr.add
  split
  · rename_i e; subst e; rfl
  · rfl
theorem rows_of {α : Type} {Q : Nat → α → Prop} : ∀ n : Nat, (∀ i, i < n → ∃ x, Q i x) → ∃ L : List α, L.length = n ∧ ∀ j x, L[j]? = some x → Q j x
  | 0, _ => ⟨[], rfl, by simp⟩
  | n + 1, h => by
    obtain ⟨L, hl, hL⟩ := rows_of n fun i hi => h i (by omega)
    obtain ⟨x, hx⟩ := h n (by omega)
    refine ⟨L ++ [x], by simp [hl], fun j y hy => ?_⟩
    by_cases hj : j < n
    · rw [List.getElem?_append_left (by omega)] at hy
      exact hL j y hy
    · have hj2 : j = n := by
        have := (List.getElem?_eq_some_iff.1 hy).1
        simp at this; omega
      subst hj2
      rw [List.getElem?_append_right (by omega), hl] at hy
      simp at hy
      subst hy
      exact hx
theorem len5 {α : Type} {cs : List α} (h : cs.length = 5) : ∃ c0 c1 c2 c3 c4, cs = [c0, c1, c2, c3, c4] := by
  match cs, h with
  | [c0, c1, c2, c3, c4], _ => exact ⟨c0, c1, c2, c3, c4, rfl⟩
section
variable {H : Type} {enc : TypeId × Value → H} {w : World} {spare : Nat → Bool} {held : Bool}
theorem open_one {n : Nat} {cs : List Value} {y : DataW H × List MemPlace} (h : DataW.trod enc Try.prog w 0 spare held n 30 cs = some y) :
    ∃ x : Sl, x.ok ∧ cs = [.int .u8 x.o, .int .u8 x.d, .int .u8 x.s, .int .i16 x.f, .int .i32 x.i] := by
  obtain ⟨xs, m, _, hx, hcl, hlen, hi⟩ := DataW.trod_struct Try.underlying30 h
  obtain ⟨c0, c1, c2, c3, c4, rfl⟩ := len5 (hcl.trans cells53)
  match xs, hlen with
  | [y0, y1, y2, y3, y4], _ =>
    have h0 := hi 0 _ rfl
    simp [cells5, cells51, cells21] at h0
    obtain ⟨m0, f0, -, w0⟩ := DataW.trod_int Try.underlying5 h0
    have h1 := hi 1 _ rfl
    simp [cells5, cells51, cells21] at h1
    obtain ⟨m1, f1, -, w1⟩ := DataW.trod_int Try.underlying5 h1
    have h2 := hi 2 _ rfl
    simp [cells5, cells51, cells21] at h2
    obtain ⟨m2, f2, -, w2⟩ := DataW.trod_int Try.underlying5 h2
    have h3 := hi 3 _ rfl
    simp [cells5, cells51, cells21] at h3
    obtain ⟨m3, f3, -, w3⟩ := DataW.trod_int Try.underlying28 h3
    have h4 := hi 4 _ rfl
    simp [cells5, cells51, cells21] at h4
    obtain ⟨m4, f4, -, w4⟩ := DataW.trod_int Try.underlying21 h4
    simp at f0 f1 f2 f3 f4
    subst f0 f1 f2 f3 f4
    exact ⟨⟨m0, m1, m2, m3, m4⟩, ⟨wf_u8 w0, wf_u8 w1, wf_u8 w2, wf_i16 w3, wf_i32 w4⟩, rfl⟩
theorem open_slots {r : Reach} {b0 : Nat} {v : Value} {d : DataW H} {p : List MemPlace} (hv : Value.okWide Try.prog w r b0 22 v) (h : DataW.Trod enc Try.prog w 0 spare held 22 v d p) :
    ∃ a len cap, v = .slice a len cap ∧ (len ≤ 4096 → ∃ L : List Sl, L.length = len ∧ Slots AnyB w (.slice a len cap) L) := by
  obtain ⟨a, len, cap, rfl⟩ := okWide_slice Try.underlying22 hv
  refine ⟨a, len, cap, rfl, fun hlen => ?_⟩
  obtain ⟨fuel, hf⟩ := h
  rcases DataW.trod_slice Try.underlying22 hf with ⟨h0, _⟩ | ⟨a', len', cap', elems, rest, n, _, h0, _, _, _, _, hel, hget, _⟩
  · simp [Value.cells] at h0
    obtain ⟨rfl, rfl, rfl⟩ := h0
    exact ⟨[], rfl, by simp, by simp, .inl ⟨⟨none, 0, rfl⟩, rfl⟩⟩
  · simp [Value.cells] at h0
    obtain ⟨rfl, rfl, rfl⟩ := h0
    have each : ∀ i, i < len → ∃ x : Sl, x.ok ∧ a'.spot = none ∧ Cell5 w a'.block (a'.off + i * 5) x ∧ a'.block < w.heap.size := by
      intro i hi
      have h1 := hget i hi
      rw [List.getElem?_eq_getElem (by omega), Option.bind_eq_some_iff] at h1
      obtain ⟨cs, hcs, ht⟩ := h1
      obtain ⟨x, hx, rfl⟩ := open_one ht
      rw [cells53] at hcs
      obtain ⟨_, _, hc⟩ := World.cells?_some hcs
      have g0 := hc 0 (by omega)
      have g1 := hc 1 (by omega)
      have g2 := hc 2 (by omega)
      have g3 := hc 3 (by omega)
      have g4 := hc 4 (by omega)
      simp only [List.getElem?_cons_zero, List.getElem?_cons_succ] at g0 g1 g2 g3 g4
      have hsp : a'.spot = none := by
        have h1 := hget 0 (by omega)
        rw [List.getElem?_eq_getElem (by omega), Option.bind_eq_some_iff] at h1
        obtain ⟨cs, hcs, ht⟩ := h1
        obtain ⟨x, hx, rfl⟩ := open_one ht
        rw [cells53] at hcs
        have g0 := (World.cells?_some hcs).2.2 0 (by omega)
        simp only [List.getElem?_cons_zero] at g0
        have hs := cell_spot g0
        simpa [Addr.add] using hs
      refine ⟨x, hx, hsp, ?_, ?_⟩
      · rw [add_of hsp] at g0 g1 g2 g3 g4
        rw [add_of rfl] at g0 g1 g2 g3 g4
        exact ⟨g0, g1, g2, g3, g4⟩
      · rw [add_of hsp, add_of rfl] at g0
        unfold World.cell? at g0
        split at g0
        · rename_i hh; exact (Array.getElem?_eq_some_iff.1 hh).1
        · cases g0
    obtain ⟨L, hl, hL⟩ := rows_of len each
    refine ⟨L, hl, fun x hx => ?_, by omega, ?_⟩
    · obtain ⟨j, hj⟩ := List.getElem?_of_mem hx
      exact (hL j x hj).1
    · by_cases h0 : len = 0
      · exact .inl ⟨⟨_, _, by rw [h0]⟩, List.eq_nil_of_length_eq_zero (by omega)⟩
      · obtain ⟨x, hx⟩ : ∃ x, L[0]? = some x := ⟨L[0]'(by omega), List.getElem?_eq_getElem _⟩
        obtain ⟨_, hsp, _, hlt⟩ := hL 0 x hx
        refine .inr ⟨a'.block, a'.off, cap, ?_, trivial, hlt, fun j x hx => (hL j x hx).2.2.1⟩
        have : a' = ⟨a'.block, a'.off, none⟩ := by cases a'; simp at hsp; rw [hsp]
        rw [hl, ← this]
end
/-- Arguments read behind the call as they did ahead of it, if nothing that was there has turned. -/
theorem trodAll_stays {H : Type} {enc : TypeId × Value → H} {W W' : World} (hb : Below W.heap.size W W') {sp : Nat → Bool} : ∀ (ts : List TypeId) (vs : List Value) (ds : List (DataW H)) (ps : List MemPlace), (∀ t ∈ ts, Try.prog.readableRec t = true ∧ t < Try.prog.types.size) →
    DataW.TrodAll enc Try.prog W 0 (fun _ => true) true ts vs ds ps → (∀ x ∈ ps, x.block < W.heap.size) → (∀ x ∈ ps, sp x.block = true) → DataW.TrodAll enc Try.prog W' 0 sp true ts vs ds ps
  | [], vs, ds, ps, _, h, _, _ => by
    obtain ⟨rfl, rfl, rfl⟩ := trodAll_nil h
    exact trodAll_mk0
  | t :: ts, vs, ds, ps, hr, h, hlt, hs => by
    obtain ⟨v, vs', d, ds', p, q, rfl, rfl, rfl, h1, h2⟩ := trodAll_cons h
    exact trodAll_cons_mk (WideElems.Trod_stays laidOut (hr t (by simp)).1 (hr t (by simp)).2 h1 (fun x hx => hb.same (hlt x (by simp [hx]))) (fun x hx => hs x (by simp [hx])))
      (trodAll_stays hb ts vs' ds' q (fun t ht => hr t (by simp [ht])) h2 (fun x hx => hlt x (by simp [hx])) (fun x hx => hs x (by simp [hx])))
theorem post_bel {H : Type} {enc : TypeId × Value → H} {f : Func} {s : ChangeSpec} {fresh handsOn again : Bool} {W W' : World} {args : Array Value} {v : Value} {ds : List (DataW H)} {before : List MemPlace}
    (hrd : ∀ t ∈ f.params.toList, Try.prog.readableRec t = true ∧ t < Try.prog.types.size)
    (hW : DataW.Whole enc Try.prog f.params.toList s.vars false W args.toList ds [] before) (hvs : s.vars = [])
    (hres : ∀ (b : Nat) (sp : Nat → Bool) (hd : Bool), DataW.TrodAll enc Try.prog W' b sp hd f.resultTypes.toList (v.resultList f.resultTypes.size) (s.fn H (ds ++ [])).results [])
    (hargs : (s.fn H (ds ++ [])).args = ds) (hvars : ∀ sp : Nat → Bool, DataW.TrodVars enc Try.prog W' sp s.vars (s.fn H (ds ++ [])).vars [])
    (hb : Below W.heap.size W W')
    (hok : ∀ (j : Nat) (t : TypeId) (r : Value), f.resultTypes[j]? = some t → (v.resultList f.resultTypes.size)[j]? = some r → Value.okWide Try.prog W' .any 0 t r) :
    s.post enc Try.prog f false fresh handsOn again W args v W' := by
  have hlt : ∀ p ∈ before, p.block < W.heap.size := fun p hp => hW.lt p hp
  obtain ⟨p, q, hA, hV, hpq, hz, hn⟩ := id hW
  have hq : q = [] := by
    rw [hvs] at hV
    exact (trodVars_none hV).2
  subst hq
  rw [List.append_nil] at hpq
  subst hpq
  have key : ∀ sp : Nat → Bool, (∀ x ∈ before, sp x.block = true) → DataW.TrodAll enc Try.prog W' 0 sp true f.params.toList args.toList (s.fn H (ds ++ [])).args before := fun sp hs => by
    rw [hargs]
    exact trodAll_stays hb _ _ _ _ hrd hA hlt hs
  refine ⟨ds, [], before, [], before, [], hW, hres _ _ _, key _ (fun x hx => by simpa using hlt x hx), hvars _, World.keptBut_mono (fun p hp => ⟨hp, .inr (.inl hp)⟩) (hb.frame _), fun _ => ?_⟩
  refine ⟨hok, _, _, [] ++ before ++ [], ⟨[] ++ before, [], trodAll_append (key _ (fun _ _ => rfl)) (hres _ _ _), hvars _, rfl, ?_, ?_⟩, ?_⟩
  · intro b off hp
    have hp' : MemPlace.cell b off ∈ before := by simpa using hp
    rw [hb.frozen (p := ⟨b, off, none⟩) (hlt _ hp')]
    exact hz b off hp'
  · intro h; cases h
  · intro x hx _
    simpa using hx
end Go.Proofs.Ytdmdmbcapjmnlab
