/- Towards the statements of package types (layer 10): tables as arguments. -/
import Derived.Test.YtmcjmdoeafhjpaaTW
import Derived.WalkKit
import Derived.ProofKit
import Derived.OpenShut
import Derived.ShutString
import Derived.Carry
import Derived.ChangeSlices
namespace Go.Proofs.Ytmcjmdoeafhjpaa
open Go.ChangeShapes Go.WideShapes Go.ChangeAt Go.RowKit
set_option linter.unusedVariables false
set_option linter.unusedSimpArgs false
set_option maxRecDepth 20000
theorem laidOut : laidOutB Try.prog = true := by kernel_rfl
theorem cells48 : Try.prog.cellsOf 48 = 5 := by kernel_rfl
theorem cells42 : Try.prog.cellsOf 42 = 3 := by kernel_rfl
theorem cells9 : Try.prog.cellsOf 9 = 1 := by kernel_rfl
theorem cells5 : Try.prog.cellsOf 5 = 1 := by kernel_rfl
theorem cells3 : Try.prog.cellsOf 3 = 1 := by kernel_rfl
theorem cells40 : Try.prog.cellsOf 40 = 1 := by kernel_rfl
theorem wf_i64 {m : Int} (h : (Lit.int .i64 m).wf = true) : -9223372036854775808 ≤ m ∧ m ≤ 9223372036854775807 := by
  simpa [Lit.wf, IntKind.min, IntKind.max, IntKind.signed, IntKind.bits] using h
theorem wf_u8 {m : Int} (h : (Lit.int .u8 m).wf = true) : 0 ≤ m ∧ m ≤ 255 := by
  simpa [Lit.wf, IntKind.min, IntKind.max, IntKind.signed, IntKind.bits] using h
theorem cell_spot {w : World} {a : Addr} {v : Value} (h : w.cell? a = some v) : a.spot = none := by
  unfold World.cell? at h
  split at h
  · split at h
    · cases h
    · rename_i hs; simpa using hs
  · cases h
theorem add_of {a : Addr} (h : a.spot = none) (n : Nat) : a.add n = ⟨a.block, a.off + n, none⟩ := by
  cases a with | mk b o s =>
  simp only at h
  subst h
  unfold Addr.add
  split
  · rename_i e; subst e; rfl
  · rfl
theorem rows_of {α : Type} {Q : Nat → α → Prop} : ∀ n : Nat, (∀ i, i < n → ∃ x, Q i x) → ∃ L : List α, L.length = n ∧ ∀ j x, L[j]? = some x → Q j x
  | 0, _ => ⟨[], rfl, by simp⟩
  | n + 1, h => by
    obtain ⟨L, hl, hL⟩ := rows_of n fun i hi => h i (by omega)
    obtain ⟨x, hx⟩ := h n (by omega)
    refine ⟨L ++ [x], by simp [hl], fun j y hy => ?_⟩
    by_cases hj : j < n
    · rw [List.getElem?_append_left (by omega)] at hy
      exact hL j y hy
    · have hj2 : j = n := by
        have := (List.getElem?_eq_some_iff.1 hy).1
        simp at this; omega
      subst hj2
      rw [List.getElem?_append_right (by omega), hl] at hy
      simp at hy
      subst hy
      exact hx
theorem len5 {α : Type} {cs : List α} (h : cs.length = 5) : ∃ c0 c1 c2 c3 c4, cs = [c0, c1, c2, c3, c4] := by
  match cs, h with
  | [c0, c1, c2, c3, c4], _ => exact ⟨c0, c1, c2, c3, c4, rfl⟩
theorem len3 {α : Type} {cs : List α} (h : cs.length = 3) : ∃ c0 c1 c2, cs = [c0, c1, c2] := by
  match cs, h with
  | [c0, c1, c2], _ => exact ⟨c0, c1, c2, rfl⟩
section
variable {H : Type} {enc : TypeId × Value → H} {w : World} {spare : Nat → Bool} {held : Bool}
theorem open_fd {n : Nat} {cs : List Value} {y : DataW H × List MemPlace} (h : DataW.trod enc Try.prog w 0 spare held n 48 cs = some y) :
    ∃ x : Fd, x.ok ∧ cs = [.string x.n, .int .u8 x.k, .int .i64 x.a, .int .i64 x.o, .int .i64 x.d] := by
  obtain ⟨xs, m, _, hx, hcl, hlen, hi⟩ := DataW.trod_struct Try.underlying48 h
  obtain ⟨c0, c1, c2, c3, c4, rfl⟩ := len5 (hcl.trans cells48)
  match xs, hlen with
  | [y0, y1, y2, y3, y4], _ =>
    have h0 := hi 0 _ rfl
    simp [cells9, cells5, cells3] at h0
    obtain ⟨m0, f0, -, w0⟩ := DataW.trod_string Try.underlying9 h0
    have h1 := hi 1 _ rfl
    simp [cells9, cells5, cells3] at h1
    obtain ⟨m1, f1, -, w1⟩ := DataW.trod_int Try.underlying5 h1
    have h2 := hi 2 _ rfl
    simp [cells9, cells5, cells3] at h2
    obtain ⟨m2, f2, -, w2⟩ := DataW.trod_int Try.underlying3 h2
    have h3 := hi 3 _ rfl
    simp [cells9, cells5, cells3] at h3
    obtain ⟨m3, f3, -, w3⟩ := DataW.trod_int Try.underlying3 h3
    have h4 := hi 4 _ rfl
    simp [cells9, cells5, cells3] at h4
    obtain ⟨m4, f4, -, w4⟩ := DataW.trod_int Try.underlying3 h4
    simp at f0 f1 f2 f3 f4
    subst f0 f1 f2 f3 f4
    exact ⟨⟨m0, m1, m2, m3, m4⟩, ⟨w0, wf_u8 w1, wf_i64 w2, wf_i64 w3, wf_i64 w4⟩, rfl⟩
theorem spot_of {a : Addr} {v : Value} {c : Nat} (h : w.cell? ((a.add (0 * c)).add 0) = some v) : a.spot = none ∧ a.block < w.heap.size := by
  rw [Nat.zero_mul] at h
  have hs := cell_spot h
  have hsp : a.spot = none := by simpa [Addr.add] using hs
  refine ⟨hsp, ?_⟩
  rw [add_of hsp, add_of rfl] at h
  unfold World.cell? at h
  split at h
  · rename_i hh; exact (Array.getElem?_eq_some_iff.1 hh).1
  · cases h
theorem open_flds {n : Nat} {cs : List Value} {y : DataW H × List MemPlace} (h : DataW.trod enc Try.prog w 0 spare held n 40 cs = some y) :
    ∃ (p : Option Addr) (l : List Fd) (c : Nat), cs = [.slice p l.length c] ∧ l.length ≤ c ∧ c ≤ maxLen ∧ Flds w p l := by
  rcases DataW.trod_slice Try.underlying40 h with ⟨h0, _⟩ | ⟨a', len, cap, elems, rest, m, _, h0, _, _, hlc, hcm, hel, hget, _⟩
  · exact ⟨none, [], 0, h0, by simp, by simp, Flds.nil _ _⟩
  · have first : 0 < len → a'.spot = none ∧ a'.block < w.heap.size := fun hp => by
      have h1 := hget 0 hp
      rw [List.getElem?_eq_getElem (by omega), Option.bind_eq_some_iff] at h1
      obtain ⟨cs, hcs, ht⟩ := h1
      obtain ⟨x, hx, rfl⟩ := open_fd ht
      rw [cells48] at hcs
      have g0 := (World.cells?_some hcs).2.2 0 (by omega)
      simp only [List.getElem?_cons_zero] at g0
      exact spot_of g0
    have each : ∀ i, i < len → ∃ x : Fd, x.ok ∧ a'.spot = none ∧ FCell w a'.block (a'.off + i * 5) x ∧ a'.block < w.heap.size := by
      intro i hi
      have h1 := hget i hi
      rw [List.getElem?_eq_getElem (by omega), Option.bind_eq_some_iff] at h1
      obtain ⟨cs, hcs, ht⟩ := h1
      obtain ⟨x, hx, rfl⟩ := open_fd ht
      rw [cells48] at hcs
      obtain ⟨_, _, hc⟩ := World.cells?_some hcs
      have g0 := hc 0 (by omega)
      have g1 := hc 1 (by omega)
      have g2 := hc 2 (by omega)
      have g3 := hc 3 (by omega)
      have g4 := hc 4 (by omega)
      simp only [List.getElem?_cons_zero, List.getElem?_cons_succ] at g0 g1 g2 g3 g4
      obtain ⟨hsp, hlt⟩ := first (by omega)
      refine ⟨x, hx, hsp, ?_, hlt⟩
      rw [add_of hsp] at g0 g1 g2 g3 g4
      rw [add_of rfl] at g0 g1 g2 g3 g4
      exact ⟨g0, g1, g2, g3, g4⟩
    obtain ⟨L, hl, hL⟩ := rows_of len each
    subst hl
    refine ⟨some a', L, cap, h0, hlc, hcm, fun x hx => ?_, by omega, ?_⟩
    · obtain ⟨j, hj⟩ := List.getElem?_of_mem hx
      exact (hL j x hj).1
    · by_cases h0 : L = []
      · exact .inl h0
      · obtain ⟨x, hx⟩ : ∃ x, L[0]? = some x := ⟨L[0]'(List.length_pos_iff.2 h0), List.getElem?_eq_getElem _⟩
        obtain ⟨_, hsp, _, hlt⟩ := hL 0 x hx
        refine .inr ⟨a'.block, a'.off, ?_, hlt, fun j x hx => (hL j x hx).2.2.1⟩
        cases a'; simp at hsp; rw [hsp]
theorem open_ty {n : Nat} {cs : List Value} {y : DataW H × List MemPlace} (h : DataW.trod enc Try.prog w 0 spare held n 42 cs = some y) :
    ∃ t : Ty, t.ok w ∧ cs = [.string t.n, .int .i64 t.s, .slice t.p t.fs.length t.c] := by
  obtain ⟨xs, m, _, hx, hcl, hlen, hi⟩ := DataW.trod_struct Try.underlying42 h
  obtain ⟨c0, c1, c2, rfl⟩ := len3 (hcl.trans cells42)
  match xs, hlen with
  | [y0, y1, y2], _ =>
    have h0 := hi 0 _ rfl
    simp [cells9, cells3, cells40] at h0
    obtain ⟨m0, f0, -, w0⟩ := DataW.trod_string Try.underlying9 h0
    have h1 := hi 1 _ rfl
    simp [cells9, cells3, cells40] at h1
    obtain ⟨m1, f1, -, w1⟩ := DataW.trod_int Try.underlying3 h1
    have h2 := hi 2 _ rfl
    simp [cells9, cells3, cells40] at h2
    obtain ⟨p, l, c, f2, k1, k2, k3⟩ := open_flds h2
    simp at f0 f1 f2
    subst f0 f1 f2
    exact ⟨⟨m0, m1, p, c, l⟩, ⟨w0, wf_i64 w1, ⟨k1, k2⟩, k3⟩, rfl⟩
theorem open_tys {r : Reach} {b0 : Nat} {v : Value} {d : DataW H} {p : List MemPlace} (hv : Value.okWide Try.prog w r b0 22 v) (h : DataW.Trod enc Try.prog w 0 spare held 22 v d p) :
    ∃ (q : Option Addr) (L : List Ty) (c : Nat), v = .slice q L.length c ∧ L.length ≤ c ∧ c ≤ maxLen ∧ Tys w q L := by
  obtain ⟨a, len, cap, rfl⟩ := okWide_slice Try.underlying22 hv
  obtain ⟨fuel, hf⟩ := h
  rcases DataW.trod_slice Try.underlying22 hf with ⟨h0, _⟩ | ⟨a', len', cap', elems, rest, n, _, h0, _, _, hlc, hcm, hel, hget, _⟩
  · simp [Value.cells] at h0
    obtain ⟨rfl, rfl, rfl⟩ := h0
    exact ⟨none, [], 0, rfl, by simp, by simp, ⟨by simp, by simp, .inl rfl⟩⟩
  · simp [Value.cells] at h0
    obtain ⟨rfl, rfl, rfl⟩ := h0
    have first : 0 < len → a'.spot = none ∧ a'.block < w.heap.size := fun hp => by
      have h1 := hget 0 hp
      rw [List.getElem?_eq_getElem (by omega), Option.bind_eq_some_iff] at h1
      obtain ⟨cs, hcs, ht⟩ := h1
      obtain ⟨x, hx, rfl⟩ := open_ty ht
      rw [cells42] at hcs
      have g0 := (World.cells?_some hcs).2.2 0 (by omega)
      simp only [List.getElem?_cons_zero] at g0
      exact spot_of g0
    have each : ∀ i, i < len → ∃ x : Ty, x.ok w ∧ a'.spot = none ∧ TCell w a'.block (a'.off + i * 3) x ∧ a'.block < w.heap.size := by
      intro i hi
      have h1 := hget i hi
      rw [List.getElem?_eq_getElem (by omega), Option.bind_eq_some_iff] at h1
      obtain ⟨cs, hcs, ht⟩ := h1
      obtain ⟨x, hx, rfl⟩ := open_ty ht
      rw [cells42] at hcs
      obtain ⟨_, _, hc⟩ := World.cells?_some hcs
      have g0 := hc 0 (by omega)
      have g1 := hc 1 (by omega)
      have g2 := hc 2 (by omega)
      simp only [List.getElem?_cons_zero, List.getElem?_cons_succ] at g0 g1 g2
      obtain ⟨hsp, hlt⟩ := first (by omega)
      refine ⟨x, hx, hsp, ?_, hlt⟩
      rw [add_of hsp] at g0 g1 g2
      rw [add_of rfl] at g0 g1 g2
      exact ⟨g0, g1, g2⟩
    obtain ⟨L, hl, hL⟩ := rows_of len each
    subst hl
    refine ⟨some a', L, cap, rfl, hlc, hcm, fun x hx => ?_, by omega, ?_⟩
    · obtain ⟨j, hj⟩ := List.getElem?_of_mem hx
      exact (hL j x hj).1
    · by_cases h0 : L = []
      · exact .inl h0
      · obtain ⟨x, hx⟩ : ∃ x, L[0]? = some x := ⟨L[0]'(List.length_pos_iff.2 h0), List.getElem?_eq_getElem _⟩
        obtain ⟨_, hsp, _, hlt⟩ := hL 0 x hx
        refine .inr ⟨a'.block, a'.off, ?_, hlt, fun j x hx => (hL j x hx).2.2.1⟩
        cases a'; simp at hsp; rw [hsp]
end
/-- Arguments read behind the call as they did ahead of it, if nothing that was there has turned. -/
theorem trodAll_stays {H : Type} {enc : TypeId × Value → H} {W W' : World} (hb : Below W.heap.size W W') {sp : Nat → Bool} : ∀ (ts : List TypeId) (vs : List Value) (ds : List (DataW H)) (ps : List MemPlace), (∀ t ∈ ts, Try.prog.readableRec t = true ∧ t < Try.prog.types.size) →
    DataW.TrodAll enc Try.prog W 0 (fun _ => true) true ts vs ds ps → (∀ x ∈ ps, x.block < W.heap.size) → (∀ x ∈ ps, sp x.block = true) → DataW.TrodAll enc Try.prog W' 0 sp true ts vs ds ps
  | [], vs, ds, ps, _, h, _, _ => by
    obtain ⟨rfl, rfl, rfl⟩ := trodAll_nil h
    exact trodAll_mk0
  | t :: ts, vs, ds, ps, hr, h, hlt, hs => by
    obtain ⟨v, vs', d, ds', p, q, rfl, rfl, rfl, h1, h2⟩ := trodAll_cons h
    exact trodAll_cons_mk (WideElems.Trod_stays laidOut (hr t (by simp)).1 (hr t (by simp)).2 h1 (fun x hx => hb.same (hlt x (by simp [hx]))) (fun x hx => hs x (by simp [hx])))
      (trodAll_stays hb ts vs' ds' q (fun t ht => hr t (by simp [ht])) h2 (fun x hx => hlt x (by simp [hx])) (fun x hx => hs x (by simp [hx])))
theorem post_bel {H : Type} {enc : TypeId × Value → H} {f : Func} {s : ChangeSpec} {fresh handsOn again : Bool} {W W' : World} {args : Array Value} {v : Value} {ds : List (DataW H)} {before : List MemPlace}
    (hrd : ∀ t ∈ f.params.toList, Try.prog.readableRec t = true ∧ t < Try.prog.types.size)
    (hW : DataW.Whole enc Try.prog f.params.toList s.vars false W args.toList ds [] before) (hvs : s.vars = [])
    (hres : ∀ (b : Nat) (sp : Nat → Bool) (hd : Bool), DataW.TrodAll enc Try.prog W' b sp hd f.resultTypes.toList (v.resultList f.resultTypes.size) (s.fn H (ds ++ [])).results [])
    (hargs : (s.fn H (ds ++ [])).args = ds) (hvars : ∀ sp : Nat → Bool, DataW.TrodVars enc Try.prog W' sp s.vars (s.fn H (ds ++ [])).vars [])
    (hb : Below W.heap.size W W')
    (hok : ∀ (j : Nat) (t : TypeId) (r : Value), f.resultTypes[j]? = some t → (v.resultList f.resultTypes.size)[j]? = some r → Value.okWide Try.prog W' .any 0 t r) :
    s.post enc Try.prog f false fresh handsOn again W args v W' := by
  have hlt : ∀ p ∈ before, p.block < W.heap.size := fun p hp => hW.lt p hp
  obtain ⟨p, q, hA, hV, hpq, hz, hn⟩ := id hW
  have hq : q = [] := by
    rw [hvs] at hV
    exact (trodVars_none hV).2
  subst hq
  rw [List.append_nil] at hpq
  subst hpq
  have key : ∀ sp : Nat → Bool, (∀ x ∈ before, sp x.block = true) → DataW.TrodAll enc Try.prog W' 0 sp true f.params.toList args.toList (s.fn H (ds ++ [])).args before := fun sp hs => by
    rw [hargs]
    exact trodAll_stays hb _ _ _ _ hrd hA hlt hs
  refine ⟨ds, [], before, [], before, [], hW, hres _ _ _, key _ (fun x hx => by simpa using hlt x hx), hvars _, World.keptBut_mono (fun p hp => ⟨hp, .inr (.inl hp)⟩) (hb.frame _), fun _ => ?_⟩
  refine ⟨hok, _, _, [] ++ before ++ [], ⟨[] ++ before, [], trodAll_append (key _ (fun _ _ => rfl)) (hres _ _ _), hvars _, rfl, ?_, ?_⟩, ?_⟩
  · intro b off hp
    have hp' : MemPlace.cell b off ∈ before := by simpa using hp
    rw [hb.frozen (p := ⟨b, off, none⟩) (hlt _ hp')]
    exact hz b off hp'
  · intro h; cases h
  · intro x hx _
    simpa using hx
def largeF (x : Fd) : Bool := decide (300 < x.n.size)
def largeT (t : Ty) : Bool := decide (300 < t.n.size) || decide (300 < t.fs.length) || t.fs.any largeF
def largeM (L : List Ty) : Bool := decide (40 < L.length) || L.any largeT
theorem large_no {L : List Ty} (h : largeM L = false) : L.length ≤ 40 ∧ ∀ t ∈ L, t.n.size ≤ 300 ∧ t.fs.length ≤ 300 ∧ ∀ x ∈ t.fs, x.n.size ≤ 300 := by
  simp only [largeM, Bool.or_eq_false_iff, decide_eq_false_iff_not, List.any_eq_false] at h
  refine ⟨by omega, fun t ht => ?_⟩
  have h1 := h.2 t ht
  simp only [largeT, Bool.or_eq_true, decide_eq_true_eq, List.any_eq_true, largeF, not_or, not_exists, not_and] at h1
  exact ⟨by omega, by omega, fun x hx => by have := h1.2 x hx; omega⟩
theorem large_fit {L : List Ty} (h : largeM L = false) : Fit L := fun t ht => ⟨by have := (large_no h).2 t ht; omega, fun x hx => by have := ((large_no h).2 t ht).2.2 x hx; omega⟩
end Go.Proofs.Ytmcjmdoeafhjpaa
