/- Towards the statements of package code (layer 8): programs as arguments; the document's kind, Callee, Number, Next, Encode, Decode. -/
import Derived.Test.YtdmdmbcapjmnlaaGreatDB
import Derived.Carry
import Derived.ChangeSlices
import Derived.OpenShut
import Derived.ProofKit
import Derived.ShutString
import Derived.WalkKit
namespace Go.Proofs.YtdmdmbcapjmnlaaGreat
open Go.ChangeShapes Go.WideShapes Go.ChangeAt
open Go.RowKit Go.Shelf
set_option linter.unusedVariables false
set_option linter.unusedSimpArgs false
set_option maxRecDepth 20000
/-- A row of bytes that lies at cv. -/
structure Row8 (w : World) (cv : Value) (C : List Int) : Prop where
  ok : ∀ x ∈ C, 0 ≤ x ∧ x ≤ 255
  at' : ((∃ p cap, cv = .slice p 0 cap) ∧ C = []) ∨ ∃ b off cap, cv = .slice (some ⟨b, off, none⟩) C.length cap ∧ b < w.heap.size ∧ ∀ (j : Nat) (x : Int), C[j]? = some x → w.cell? ⟨b, off + j, none⟩ = some (.int .u8 x)
theorem Row8.gr {w w' : World} {cv : Value} {C : List Int} (h : Row8 w cv C) (hb : Below w.heap.size w w') : Row8 w' cv C := by
  refine ⟨h.ok, ?_⟩
  rcases h.at' with e | ⟨b, off, cap, e, hlt, hc⟩
  · exact .inl e
  · exact .inr ⟨b, off, cap, e, Nat.lt_of_lt_of_le hlt hb.size, fun j x hx => (hb.cell (p := ⟨b, off + j, none⟩) hlt).trans (hc j x hx)⟩
theorem Row8.shape {w : World} {cv : Value} {C : List Int} (h : Row8 w cv C) : ∃ p cap, cv = .slice p C.length cap := by
  rcases h.at' with ⟨⟨p, cap, e⟩, e2⟩ | ⟨b, off, cap, e, _⟩
  · exact ⟨p, cap, by rw [e, e2]; rfl⟩
  · exact ⟨_, _, e⟩
theorem own_nil {w w' : World} {v : Value} {xs : List Int} (h : Own w w' v xs) (hx : xs = []) : ∃ p cap, v = .slice p 0 cap := by
  subst hx
  rcases h.1.2 with ⟨e, _⟩ | ⟨g, cap, cur, e, _⟩
  · exact ⟨none, 0, e⟩
  · exact ⟨_, _, e⟩
theorem own_get {w w' : World} {v : Value} {xs : List Int} (h : Own w w' v xs) (hx : xs ≠ []) : ∃ g cap, v = .slice (some ⟨g, 0, none⟩) xs.length cap ∧ ∀ (j : Nat) (x : Int), xs[j]? = some x → w'.cell? ⟨g, j, none⟩ = some (.int .i64 x) := by
  rcases h.1.2 with ⟨_, h0⟩ | ⟨g, cap, cur, e, hb, hg, hn, _, hs', ht⟩
  · simp at h0; exact absurd h0 hx
  · refine ⟨g, cap, e, fun j x hj => ?_⟩
    unfold World.cell?
    rw [hg]
    have h1 : (xs.map (Value.int .i64))[j]? = some (.int .i64 x) := by simp [hj]
    rw [← ht, List.getElem?_take] at h1
    split at h1
    · simpa using h1
    · cases h1
theorem Row8.get {w : World} {p : Option Addr} {n c : Nat} {C : List Int} (h : Row8 w (.slice p n c) C) {i : Nat} {x : Int} (hx : C[i]? = some x) : ∃ b off, p = some ⟨b, off, none⟩ ∧ w.cell? ⟨b, off + i, none⟩ = some (.int .u8 x) ∧ n = C.length ∧ b < w.heap.size := by
  rcases h.at' with ⟨_, e2⟩ | ⟨b, off, cap, e, hlt, hc⟩
  · rw [e2] at hx; simp at hx
  · cases e; exact ⟨b, off, rfl, hc i x hx, rfl, hlt⟩

theorem laidOut : laidOutB Tryz.prog = true := by kernel_rfl
theorem cells53 : Tryz.prog.cellsOf 53 = 5 := by kernel_rfl
theorem cells5 : Tryz.prog.cellsOf 5 = 1 := by kernel_rfl
theorem cells51 : Tryz.prog.cellsOf 51 = 1 := by kernel_rfl
theorem cells21 : Tryz.prog.cellsOf 21 = 1 := by kernel_rfl
theorem wf_u8 {m : Int} (h : (Lit.int .u8 m).wf = true) : 0 ≤ m ∧ m ≤ 255 := by
  simpa [Lit.wf, IntKind.min, IntKind.max, IntKind.signed, IntKind.bits] using h
theorem wf_i16 {m : Int} (h : (Lit.int .i16 m).wf = true) : -32768 ≤ m ∧ m ≤ 32767 := by
  simpa [Lit.wf, IntKind.min, IntKind.max, IntKind.signed, IntKind.bits] using h
theorem wf_i32 {m : Int} (h : (Lit.int .i32 m).wf = true) : -2147483648 ≤ m ∧ m ≤ 2147483647 := by
  simpa [Lit.wf, IntKind.min, IntKind.max, IntKind.signed, IntKind.bits] using h
theorem cell_spot {w : World} {a : Addr} {v : Value} (h : w.cell? a = some v) : a.spot = none := by
  unfold World.cell? at h
  split at h
  · split at h
    · cases h
    · rename_i hs; simpa using hs
  · cases h
theorem add_of {a : Addr} (h : a.spot = none) (n : Nat) : a.add n = ⟨a.block, a.off + n, none⟩ := by
  cases a with | mk b o s =>
  simp only at h
  subst h
  unfold Addr.add
  split
  · rename_i e; subst e; rfl
  · rfl
theorem rows_of {α : Type} {Q : Nat → α → Prop} : ∀ n : Nat, (∀ i, i < n → ∃ x, Q i x) → ∃ L : List α, L.length = n ∧ ∀ j x, L[j]? = some x → Q j x
  | 0, _ => ⟨[], rfl, by simp⟩
  | n + 1, h => by
    obtain ⟨L, hl, hL⟩ := rows_of n fun i hi => h i (by omega)
    obtain ⟨x, hx⟩ := h n (by omega)
    refine ⟨L ++ [x], by simp [hl], fun j y hy => ?_⟩
    by_cases hj : j < n
    · rw [List.getElem?_append_left (by omega)] at hy
      exact hL j y hy
    · have hj2 : j = n := by
        have := (List.getElem?_eq_some_iff.1 hy).1
        simp at this; omega
      subst hj2
      rw [List.getElem?_append_right (by omega), hl] at hy
      simp at hy
      subst hy
      exact hx
theorem len5 {α : Type} {cs : List α} (h : cs.length = 5) : ∃ c0 c1 c2 c3 c4, cs = [c0, c1, c2, c3, c4] := by
  match cs, h with
  | [c0, c1, c2, c3, c4], _ => exact ⟨c0, c1, c2, c3, c4, rfl⟩
section
variable {H : Type} {enc : TypeId × Value → H} {w : World} {spare : Nat → Bool} {held : Bool}
theorem open_one {n : Nat} {cs : List Value} {y : DataW H × List MemPlace} (h : DataW.trod enc Tryz.prog w 0 spare held n 53 cs = some y) :
    ∃ x : Sl, x.ok ∧ cs = [.int .u8 x.o, .int .u8 x.d, .int .u8 x.s, .int .i16 x.f, .int .i32 x.i] := by
  obtain ⟨xs, m, _, hx, hcl, hlen, hi⟩ := DataW.trod_struct Tryz.underlying53 h
  obtain ⟨c0, c1, c2, c3, c4, rfl⟩ := len5 (hcl.trans cells53)
  match xs, hlen with
  | [y0, y1, y2, y3, y4], _ =>
    have h0 := hi 0 _ rfl
    simp [cells5, cells51, cells21] at h0
    obtain ⟨m0, f0, -, w0⟩ := DataW.trod_int Tryz.underlying5 h0
    have h1 := hi 1 _ rfl
    simp [cells5, cells51, cells21] at h1
    obtain ⟨m1, f1, -, w1⟩ := DataW.trod_int Tryz.underlying5 h1
    have h2 := hi 2 _ rfl
    simp [cells5, cells51, cells21] at h2
    obtain ⟨m2, f2, -, w2⟩ := DataW.trod_int Tryz.underlying5 h2
    have h3 := hi 3 _ rfl
    simp [cells5, cells51, cells21] at h3
    obtain ⟨m3, f3, -, w3⟩ := DataW.trod_int Tryz.underlying51 h3
    have h4 := hi 4 _ rfl
    simp [cells5, cells51, cells21] at h4
    obtain ⟨m4, f4, -, w4⟩ := DataW.trod_int Tryz.underlying21 h4
    simp at f0 f1 f2 f3 f4
    subst f0 f1 f2 f3 f4
    exact ⟨⟨m0, m1, m2, m3, m4⟩, ⟨wf_u8 w0, wf_u8 w1, wf_u8 w2, wf_i16 w3, wf_i32 w4⟩, rfl⟩
theorem open_slots {r : Reach} {b0 : Nat} {v : Value} {d : DataW H} {p : List MemPlace} (hv : Value.okWide Tryz.prog w r b0 22 v) (h : DataW.Trod enc Tryz.prog w 0 spare held 22 v d p) :
    ∃ a len cap, v = .slice a len cap ∧ (len ≤ 4096 → ∃ L : List Sl, L.length = len ∧ Slots AnyB w (.slice a len cap) L) := by
  obtain ⟨a, len, cap, rfl⟩ := okWide_slice Tryz.underlying22 hv
  refine ⟨a, len, cap, rfl, fun hlen => ?_⟩
  obtain ⟨fuel, hf⟩ := h
  rcases DataW.trod_slice Tryz.underlying22 hf with ⟨h0, _⟩ | ⟨a', len', cap', elems, rest, n, _, h0, _, _, _, _, hel, hget, _⟩
  · simp [Value.cells] at h0
    obtain ⟨rfl, rfl, rfl⟩ := h0
    exact ⟨[], rfl, by simp, by simp, .inl ⟨⟨none, 0, rfl⟩, rfl⟩⟩
  · simp [Value.cells] at h0
    obtain ⟨rfl, rfl, rfl⟩ := h0
    have each : ∀ i, i < len → ∃ x : Sl, x.ok ∧ a'.spot = none ∧ Cell5 w a'.block (a'.off + i * 5) x ∧ a'.block < w.heap.size := by
      intro i hi
      have h1 := hget i hi
      rw [List.getElem?_eq_getElem (by omega), Option.bind_eq_some_iff] at h1
      obtain ⟨cs, hcs, ht⟩ := h1
      obtain ⟨x, hx, rfl⟩ := open_one ht
      rw [cells53] at hcs
      obtain ⟨_, _, hc⟩ := World.cells?_some hcs
      have g0 := hc 0 (by omega)
      have g1 := hc 1 (by omega)
      have g2 := hc 2 (by omega)
      have g3 := hc 3 (by omega)
      have g4 := hc 4 (by omega)
      simp only [List.getElem?_cons_zero, List.getElem?_cons_succ] at g0 g1 g2 g3 g4
      have hsp : a'.spot = none := by
        have h1 := hget 0 (by omega)
        rw [List.getElem?_eq_getElem (by omega), Option.bind_eq_some_iff] at h1
        obtain ⟨cs, hcs, ht⟩ := h1
        obtain ⟨x, hx, rfl⟩ := open_one ht
        rw [cells53] at hcs
        have g0 := (World.cells?_some hcs).2.2 0 (by omega)
        simp only [List.getElem?_cons_zero] at g0
        have hs := cell_spot g0
        simpa [Addr.add] using hs
      refine ⟨x, hx, hsp, ?_, ?_⟩
      · rw [add_of hsp] at g0 g1 g2 g3 g4
        rw [add_of rfl] at g0 g1 g2 g3 g4
        exact ⟨g0, g1, g2, g3, g4⟩
      · rw [add_of hsp, add_of rfl] at g0
        unfold World.cell? at g0
        split at g0
        · rename_i hh; exact (Array.getElem?_eq_some_iff.1 hh).1
        · cases g0
    obtain ⟨L, hl, hL⟩ := rows_of len each
    refine ⟨L, hl, fun x hx => ?_, by omega, ?_⟩
    · obtain ⟨j, hj⟩ := List.getElem?_of_mem hx
      exact (hL j x hj).1
    · by_cases h0 : len = 0
      · exact .inl ⟨⟨_, _, by rw [h0]⟩, List.eq_nil_of_length_eq_zero (by omega)⟩
      · obtain ⟨x, hx⟩ : ∃ x, L[0]? = some x := ⟨L[0]'(by omega), List.getElem?_eq_getElem _⟩
        obtain ⟨_, hsp, _, hlt⟩ := hL 0 x hx
        refine .inr ⟨a'.block, a'.off, cap, ?_, trivial, hlt, fun j x hx => (hL j x hx).2.2.1⟩
        have : a' = ⟨a'.block, a'.off, none⟩ := by cases a'; simp at hsp; rw [hsp]
        rw [hl, ← this]
theorem open_row8 {r : Reach} {b0 : Nat} {v : Value} {d : DataW H} {p : List MemPlace} (hv : Value.okWide Tryz.prog w r b0 46 v) (h : DataW.Trod enc Tryz.prog w 0 (fun _ => true) held 46 v d p) :
    ∃ a len cap, v = .slice a len cap ∧ ∃ C : List Int, C.length = len ∧ Row8 w (.slice a len cap) C := by
  obtain ⟨a, len, cap, rfl⟩ := okWide_slice Tryz.underlying46 hv
  refine ⟨a, len, cap, rfl, ?_⟩
  obtain ⟨fuel, hf⟩ := h
  rcases open_ints Tryz.underlying46 Tryz.underlying5 cells5 hf with ⟨h0, _⟩ | ⟨a', len', cap', zs, h0, _, hlc, hm, hz, _, hcell, hwz⟩
  · simp [Value.cells] at h0
    obtain ⟨rfl, rfl, rfl⟩ := h0
    exact ⟨[], rfl, by simp, .inl ⟨⟨none, 0, rfl⟩, rfl⟩⟩
  · simp [Value.cells] at h0
    obtain ⟨rfl, rfl, rfl⟩ := h0
    simp only [if_true] at hz
    have hlen : (zs.take len).length = len := by rw [List.length_take]; omega
    refine ⟨zs.take len, hlen, fun x hx => wf_u8 (hwz x (List.mem_of_mem_take hx)), ?_⟩
    by_cases h0 : len = 0
    · exact .inl ⟨⟨_, _, by rw [h0]⟩, List.eq_nil_of_length_eq_zero (by omega)⟩
    · have g0 := hcell 0 (by omega)
      have hsp : a'.spot = none := by have := cell_spot g0; simpa [Addr.add] using this
      refine .inr ⟨a'.block, a'.off, cap, ?_, ?_, fun j x hx => ?_⟩
      · have : a' = ⟨a'.block, a'.off, none⟩ := by cases a'; simp at hsp; rw [hsp]
        rw [hlen, ← this]
      · rw [add_of hsp] at g0
        unfold World.cell? at g0
        split at g0
        · rename_i hh; exact (Array.getElem?_eq_some_iff.1 hh).1
        · cases g0
      · have hj := (List.getElem?_eq_some_iff.1 hx).1
        have g := hcell j (by omega)
        rw [add_of hsp] at g
        rw [List.getElem?_take, if_pos (by omega)] at hx
        rw [List.getD, hx] at g
        exact g
end
/-- Arguments read behind the call as they did ahead of it, if nothing that was there has turned. -/
theorem trodAll_stays {H : Type} {enc : TypeId × Value → H} {W W' : World} (hb : Below W.heap.size W W') {sp : Nat → Bool} : ∀ (ts : List TypeId) (vs : List Value) (ds : List (DataW H)) (ps : List MemPlace), (∀ t ∈ ts, Tryz.prog.readableRec t = true ∧ t < Tryz.prog.types.size) →
    DataW.TrodAll enc Tryz.prog W 0 (fun _ => true) true ts vs ds ps → (∀ x ∈ ps, x.block < W.heap.size) → (∀ x ∈ ps, sp x.block = true) → DataW.TrodAll enc Tryz.prog W' 0 sp true ts vs ds ps
  | [], vs, ds, ps, _, h, _, _ => by
    obtain ⟨rfl, rfl, rfl⟩ := trodAll_nil h
    exact trodAll_mk0
  | t :: ts, vs, ds, ps, hr, h, hlt, hs => by
    obtain ⟨v, vs', d, ds', p, q, rfl, rfl, rfl, h1, h2⟩ := trodAll_cons h
    exact trodAll_cons_mk (WideElems.Trod_stays laidOut (hr t (by simp)).1 (hr t (by simp)).2 h1 (fun x hx => hb.same (hlt x (by simp [hx]))) (fun x hx => hs x (by simp [hx])))
      (trodAll_stays hb ts vs' ds' q (fun t ht => hr t (by simp [ht])) h2 (fun x hx => hlt x (by simp [hx])) (fun x hx => hs x (by simp [hx])))
theorem post_bel {H : Type} {enc : TypeId × Value → H} {f : Func} {s : ChangeSpec} {fresh handsOn again : Bool} {W W' : World} {args : Array Value} {v : Value} {ds : List (DataW H)} {before : List MemPlace}
    (hrd : ∀ t ∈ f.params.toList, Tryz.prog.readableRec t = true ∧ t < Tryz.prog.types.size)
    (hW : DataW.Whole enc Tryz.prog f.params.toList s.vars false W args.toList ds [] before) (hvs : s.vars = [])
    (hres : ∀ (b : Nat) (sp : Nat → Bool) (hd : Bool), DataW.TrodAll enc Tryz.prog W' b sp hd f.resultTypes.toList (v.resultList f.resultTypes.size) (s.fn H (ds ++ [])).results [])
    (hargs : (s.fn H (ds ++ [])).args = ds) (hvars : ∀ sp : Nat → Bool, DataW.TrodVars enc Tryz.prog W' sp s.vars (s.fn H (ds ++ [])).vars [])
    (hb : Below W.heap.size W W')
    (hok : ∀ (j : Nat) (t : TypeId) (r : Value), f.resultTypes[j]? = some t → (v.resultList f.resultTypes.size)[j]? = some r → Value.okWide Tryz.prog W' .any 0 t r) :
    s.post enc Tryz.prog f false fresh handsOn again W args v W' := by
  have hlt : ∀ p ∈ before, p.block < W.heap.size := fun p hp => hW.lt p hp
  obtain ⟨p, q, hA, hV, hpq, hz, hn⟩ := id hW
  have hq : q = [] := by
    rw [hvs] at hV
    exact (trodVars_none hV).2
  subst hq
  rw [List.append_nil] at hpq
  subst hpq
  have key : ∀ sp : Nat → Bool, (∀ x ∈ before, sp x.block = true) → DataW.TrodAll enc Tryz.prog W' 0 sp true f.params.toList args.toList (s.fn H (ds ++ [])).args before := fun sp hs => by
    rw [hargs]
    exact trodAll_stays hb _ _ _ _ hrd hA hlt hs
  refine ⟨ds, [], before, [], before, [], hW, hres _ _ _, key _ (fun x hx => by simpa using hlt x hx), hvars _, World.keptBut_mono (fun p hp => ⟨hp, .inr (.inl hp)⟩) (hb.frame _), fun _ => ?_⟩
  refine ⟨hok, _, _, [] ++ before ++ [], ⟨[] ++ before, [], trodAll_append (key _ (fun _ _ => rfl)) (hres _ _ _), hvars _, rfl, ?_, ?_⟩, ?_⟩
  · intro b off hp
    have hp' : MemPlace.cell b off ∈ before := by simpa using hp
    rw [hb.frozen (p := ⟨b, off, none⟩) (hlt _ hp')]
    exact hz b off hp'
  · intro h; cases h
  · intro x hx _
    simpa using hx

theorem rkindAt_any (n₀ : Nat → Prop) (sv : Value) (L : List Sl) (at_ : Int) (w : World) (hL : Slots n₀ w sv L) : Calls Tryz.prog 33 #[sv, .int .i64 at_] w fun e w' => e = .returned (.int .u8 (kindM L at_)) ∧ Gr w w' := by
  have hlen := hL.len
  cases e : slotAt L at_ with
  | none =>
    have hn := slotAt_none e
    obtain ⟨p, cap, rfl⟩ := hL.shape
    rw [kindM, e]
    by_cases h0 : at_ < 0
    · have d0 : decide (at_ < 0) = true := by simp; omega
      go_enter Tryz.func33, Tryz.ntmps33
      go_wp2
      go_returns
      exact ⟨rfl, Gr.refl _⟩
    · have d0 : decide (at_ < 0) = false := by simp; omega
      have d1 : decide ((L.length : Int) ≤ at_) = true := by simp; omega
      go_enter Tryz.func33, Tryz.ntmps33
      go_wp2
      go_returns
      exact ⟨rfl, Gr.refl _⟩
  | some x =>
    obtain ⟨h0, h1⟩ := slotAt_some e
    obtain ⟨b, off, cap, rfl, hb, ⟨c0, c1, c2, c3, c4⟩, ⟨⟨o0, o1⟩, ⟨d0, d1⟩, ⟨s0, s1⟩, _⟩, hlt⟩ := hL.get h0 h1
    have g0 : decide (at_ < 0) = false := by simp; omega
    have g1 : decide ((L.length : Int) ≤ at_) = false := by simp; omega
    have k2 := rkind_any x.o x.d x.s x.f x.i o0 o1 d0 d1 s0 s1 w
    rw [kindM, e]
    go_enter Tryz.func33, Tryz.ntmps33
    go_wp2_with first | (go_at_call 24; refine k2.mono ?_; rintro e w' ⟨rfl, hg⟩)
    go_returns
    exact ⟨rfl, hg⟩
theorem rcallee_any (n₀ : Nat → Prop) (sv : Value) (L : List Sl) (at_ : Int) (w : World) (hL : Slots n₀ w sv L) : Calls Tryz.prog 11 #[sv, .int .i64 at_] w fun e w' => e = .returned (calleeV L at_) ∧ Gr w w' := by
  have k1 := rkindAt_any n₀ sv L at_ w hL
  have hlen := hL.len
  unfold calleeV calleeM
  cases e : slotAt L at_ with
  | none =>
    rw [kindM, e] at k1
    dsimp only at k1 ⊢
    go_enter Tryz.func11, Tryz.ntmps11
    go_wp2_with first | (go_at_call 33; refine k1.mono ?_; rintro e w' ⟨rfl, hg⟩)
    go_returns
    exact ⟨rfl, hg⟩
  | some x =>
    rw [kindM, e] at k1
    dsimp only at k1 ⊢
    obtain ⟨h0, h1⟩ := slotAt_some e
    obtain ⟨b, off, cap, rfl, hb, hC, ⟨_, _, ⟨s0, s1⟩, _, ⟨i0, i1⟩⟩, hlt⟩ := hL.here.get h0 h1
    have e1 : IntKind.i64.wrap (at_ + 1) = at_ + 1 := IntWalk.i64_in _ (by omega)
    have e2 : IntKind.i64.wrap (at_ + 2) = at_ + 2 := IntWalk.i64_in _ (by omega)
    have e3 : IntKind.i64.wrap (at_ + 1 + x.i) = at_ + 1 + x.i := IntWalk.i64_in _ (by omega)
    have e4 : IntKind.i64.wrap (at_ + 2 + x.i) = at_ + 2 + x.i := IntWalk.i64_in _ (by omega)
    have e5 : IntKind.i64.wrap x.i = x.i := IntWalk.i64_in _ (by omega)
    have hcel : ∀ W, Gr w W → Cell5 W b (off + at_.toNat * 5) x := fun W h => hC.below hb h.below
    by_cases h7 : x.k = 7
    · rw [h7] at k1
      rw [if_pos h7]
      go_enter Tryz.func11, Tryz.ntmps11
      go_wp2_with first | (go_at_call 33; refine k1.mono ?_; rintro e w' ⟨rfl, hg⟩; obtain ⟨c0, c1, c2, c3, c4⟩ := hcel w' hg)
      go_returns
      exact ⟨rfl, hg⟩
    · have q7 : (x.k == 7) = false := by simpa using h7
      rw [if_neg h7]
      by_cases h9 : x.k = 9
      · rw [h9] at k1 q7
        cases hs2 : (x.s == 2) with
        | true =>
          rw [if_pos ⟨h9, by simpa using hs2⟩]
          go_enter Tryz.func11, Tryz.ntmps11
          go_wp2_with first | (go_at_call 33; refine k1.mono ?_; rintro e w' ⟨rfl, hg⟩; obtain ⟨c0, c1, c2, c3, c4⟩ := hcel w' hg)
          go_returns
          exact ⟨rfl, hg⟩
        | false =>
          rw [if_neg (fun h => by simp [h.2] at hs2)]
          go_enter Tryz.func11, Tryz.ntmps11
          go_wp2_with first | (go_at_call 33; refine k1.mono ?_; rintro e w' ⟨rfl, hg⟩; obtain ⟨c0, c1, c2, c3, c4⟩ := hcel w' hg)
          go_returns
          exact ⟨rfl, hg⟩
      · have q9 : (x.k == 9) = false := by simpa using h9
        rw [if_neg (fun h => h9 h.1)]
        go_enter Tryz.func11, Tryz.ntmps11
        go_wp2_with first | (go_at_call 33; refine k1.mono ?_; rintro e w' ⟨rfl, hg⟩)
        go_returns
        exact ⟨rfl, hg⟩

def numM (L : List Sl) (at_ : Int) : Int := match slotAt L at_ with
  | some x => if x.k = 9 then (match slotAt L (at_ + 1) with
    | some y => bits .or .u64 (y.i % 4294967296 * 4294967296) (x.i % 4294967296)
    | none => 0) else 0
  | none => 0
theorem cnumber_any (n₀ : Nat → Prop) (sv : Value) (L : List Sl) (at_ : Int) (w : World) (hL : Slots n₀ w sv L) : Calls Tryz.prog 15 #[sv, .int .i64 at_] w fun e w' => e = .returned (.int .u64 (numM L at_)) ∧ Below w.heap.size w w' := by
  have k1 := kindAt_any n₀ sv L at_ w hL
  have hlen := hL.len
  unfold numM
  cases hx : slotAt L at_ with
  | none =>
    rw [kindM, hx] at k1
    dsimp only at k1 ⊢
    obtain ⟨p, cap, rfl⟩ := hL.shape
    go_enter Tryz.func15, Tryz.ntmps15
    go_wp2_with first | (go_at_call 30; refine k1.mono ?_; rintro e w' ⟨rfl, hg⟩)
    go_returns
    exact ⟨rfl, hg.below⟩
  | some x =>
    rw [kindM, hx] at k1
    dsimp only at k1 ⊢
    obtain ⟨h0, h1⟩ := slotAt_some hx
    have hal := (List.getElem?_eq_some_iff.1 h1).1
    obtain ⟨b, off, cap, rfl, hb, hC, ⟨_, _, _, _, ⟨i0, i1⟩⟩, hlt⟩ := hL.here.get h0 h1
    have e1 : IntKind.i64.wrap (at_ + 1) = at_ + 1 := IntWalk.i64_in _ (by omega)
    have k2 := fun W => isThere_any (some ⟨b, off, none⟩) L hL.len cap (at_ + 1) W
    by_cases h9 : x.k = 9
    · rw [h9] at k1
      rw [if_pos h9]
      cases hy : slotAt L (at_ + 1) with
      | none =>
        have hT : thereB L (at_ + 1) = false := by rw [thereB_iff, hy]; rfl
        have hn := slotAt_none hy
        have dl : decide ((L.length : Int) ≤ at_ + 1) = true := by simp; omega
        rw [hT] at k2
        dsimp only
        go_enter Tryz.func15, Tryz.ntmps15
        go_wp2_with first | (go_at_call 30; refine k1.mono ?_; rintro e w' ⟨rfl, hg⟩) | (go_at_call 38; refine (k2 _).mono ?_; rintro e w2 ⟨rfl, rfl⟩)
        go_returns
        exact ⟨rfl, hg.below⟩
      | some y =>
        have hT : thereB L (at_ + 1) = true := by rw [thereB_iff, hy]; rfl
        rw [hT] at k2
        obtain ⟨h2, h3⟩ := slotAt_some hy
        have hyl := (List.getElem?_eq_some_iff.1 h3).1
        obtain ⟨b', off', cap', he, hb', hC', ⟨_, _, _, _, ⟨j0, j1⟩⟩, hlt'⟩ := hL.here.get h2 h3
        cases he
        have dl : decide ((L.length : Int) ≤ at_ + 1) = false := by simp; omega
        dsimp only
        have hcel : ∀ W, Gr w W → Cell5 W b (off + at_.toNat * 5) x ∧ Cell5 W b (off + (at_ + 1).toNat * 5) y := fun W h => ⟨hC.below hb h.below, hC'.below hb h.below⟩
        go_enter Tryz.func15, Tryz.ntmps15
        go_upto_region 3 with first | (go_at_call 30; refine k1.mono ?_; rintro e w' ⟨rfl, hg⟩; obtain ⟨⟨c0, c1, c2, c3, c4⟩, ⟨g0, g1, g2, g3, g4⟩⟩ := hcel w' hg) | (go_at_call 38; refine (k2 _).mono ?_; rintro e w2 ⟨rfl, rfl⟩)
        go_quiet (fail)
        go_wp2
        go_returns
        exact ⟨rfl, hg.below.os, hg.below.tape, hg.below.output, hg.below.size, hg.below.block⟩
    · have q9 : (x.k != 9) = true := by simpa using h9
      rw [if_neg h9]
      go_enter Tryz.func15, Tryz.ntmps15
      go_wp2_with first | (go_at_call 30; refine k1.mono ?_; rintro e w' ⟨rfl, hg⟩)
      go_returns
      exact ⟨rfl, hg.below⟩
theorem crnumber_any (n₀ : Nat → Prop) (sv : Value) (L : List Sl) (at_ : Int) (w : World) (hL : Slots n₀ w sv L) : Calls Tryz.prog 16 #[sv, .int .i64 at_] w fun e w' => e = .returned (.int .u64 (numM L at_)) ∧ Below w.heap.size w w' := by
  have k1 := rkindAt_any n₀ sv L at_ w hL
  have hlen := hL.len
  unfold numM
  cases hx : slotAt L at_ with
  | none =>
    rw [kindM, hx] at k1
    dsimp only at k1 ⊢
    obtain ⟨p, cap, rfl⟩ := hL.shape
    go_enter Tryz.func16, Tryz.ntmps16
    go_wp2_with first | (go_at_call 33; refine k1.mono ?_; rintro e w' ⟨rfl, hg⟩)
    go_returns
    exact ⟨rfl, hg.below⟩
  | some x =>
    rw [kindM, hx] at k1
    dsimp only at k1 ⊢
    obtain ⟨h0, h1⟩ := slotAt_some hx
    have hal := (List.getElem?_eq_some_iff.1 h1).1
    obtain ⟨b, off, cap, rfl, hb, hC, ⟨_, _, _, _, ⟨i0, i1⟩⟩, hlt⟩ := hL.here.get h0 h1
    have e1 : IntKind.i64.wrap (at_ + 1) = at_ + 1 := IntWalk.i64_in _ (by omega)
    have k2 := fun W => isThere_any (some ⟨b, off, none⟩) L hL.len cap (at_ + 1) W
    by_cases h9 : x.k = 9
    · rw [h9] at k1
      rw [if_pos h9]
      cases hy : slotAt L (at_ + 1) with
      | none =>
        have hT : thereB L (at_ + 1) = false := by rw [thereB_iff, hy]; rfl
        have hn := slotAt_none hy
        have dl : decide ((L.length : Int) ≤ at_ + 1) = true := by simp; omega
        rw [hT] at k2
        dsimp only
        go_enter Tryz.func16, Tryz.ntmps16
        go_wp2_with first | (go_at_call 33; refine k1.mono ?_; rintro e w' ⟨rfl, hg⟩) 
        go_returns
        exact ⟨rfl, hg.below⟩
      | some y =>
        have hT : thereB L (at_ + 1) = true := by rw [thereB_iff, hy]; rfl
        rw [hT] at k2
        obtain ⟨h2, h3⟩ := slotAt_some hy
        have hyl := (List.getElem?_eq_some_iff.1 h3).1
        obtain ⟨b', off', cap', he, hb', hC', ⟨_, _, _, _, ⟨j0, j1⟩⟩, hlt'⟩ := hL.here.get h2 h3
        cases he
        have dl : decide ((L.length : Int) ≤ at_ + 1) = false := by simp; omega
        dsimp only
        have hcel : ∀ W, Gr w W → Cell5 W b (off + at_.toNat * 5) x ∧ Cell5 W b (off + (at_ + 1).toNat * 5) y := fun W h => ⟨hC.below hb h.below, hC'.below hb h.below⟩
        go_enter Tryz.func16, Tryz.ntmps16
        go_upto_region 3 with first | (go_at_call 33; refine k1.mono ?_; rintro e w' ⟨rfl, hg⟩; obtain ⟨⟨c0, c1, c2, c3, c4⟩, ⟨g0, g1, g2, g3, g4⟩⟩ := hcel w' hg) 
        go_quiet (fail)
        go_wp2
        go_returns
        exact ⟨rfl, hg.below.os, hg.below.tape, hg.below.output, hg.below.size, hg.below.block⟩
    · have q9 : (x.k != 9) = true := by simpa using h9
      rw [if_neg h9]
      go_enter Tryz.func16, Tryz.ntmps16
      go_wp2_with first | (go_at_call 33; refine k1.mono ?_; rintro e w' ⟨rfl, hg⟩)
      go_returns
      exact ⟨rfl, hg.below⟩

/-- A row of numbers that lies at v. -/
def NRow (w : World) (v : Value) (xs : List Int) : Prop := (xs = [] ∧ ∃ p c, v = .slice p 0 c) ∨ ∃ g cap, v = .slice (some ⟨g, 0, none⟩) xs.length cap ∧ g < w.heap.size ∧ ∀ (j : Nat) (x : Int), xs[j]? = some x → w.cell? ⟨g, j, none⟩ = some (.int .i64 x)
theorem NRow.gr {w w' : World} {v : Value} {xs : List Int} (h : NRow w v xs) (hb : Below w.heap.size w w') : NRow w' v xs := by
  rcases h with h | ⟨g, cap, e, hg, hc⟩
  · exact .inl h
  · exact .inr ⟨g, cap, e, Nat.lt_of_lt_of_le hg hb.size, fun j x hx => (hb.cell (p := ⟨g, j, none⟩) hg).trans (hc j x hx)⟩
theorem NRow.shape {w : World} {v : Value} {xs : List Int} (h : NRow w v xs) : ∃ p cap, v = .slice p xs.length cap := by
  rcases h with ⟨rfl, p, c, e⟩ | ⟨g, cap, e, _⟩
  · exact ⟨p, c, e⟩
  · exact ⟨_, _, e⟩
theorem NRow.get {w : World} {p : Option Addr} {n c : Nat} {xs : List Int} (h : NRow w (.slice p n c) xs) {i : Nat} {x : Int} (hx : xs[i]? = some x) : ∃ g, p = some ⟨g, 0, none⟩ ∧ w.cell? ⟨g, i, none⟩ = some (.int .i64 x) ∧ g < w.heap.size := by
  rcases h with ⟨e2, _⟩ | ⟨g, cap, e, hlt, hc⟩
  · rw [e2] at hx; simp at hx
  · cases e; exact ⟨g, rfl, hc i x hx, hlt⟩
theorem nrow_own {w w' : World} {v : Value} {xs : List Int} (h : Own w w' v xs) : NRow w' v xs := by
  by_cases hx : xs = []
  · obtain ⟨p, c, e⟩ := own_nil h hx
    exact .inl ⟨hx, p, c, e⟩
  · obtain ⟨g, cap, e, hc⟩ := own_get h hx
    refine .inr ⟨g, cap, e, ?_, hc⟩
    obtain ⟨x, hx0⟩ : ∃ x, xs[0]? = some x := ⟨xs[0]'(List.length_pos_iff.2 hx), List.getElem?_eq_getElem _⟩
    have := hc 0 x hx0
    unfold World.cell? at this
    split at this
    · rename_i hh; exact (Array.getElem?_eq_some_iff.1 hh).1
    · cases this
set_option maxHeartbeats 2000000 in
theorem numbers_any (u v : Value) (xs : List Int) (hl : xs.length ≤ 4096) (w : World) (hu : NRow w u xs) (hv : NRow w v xs) : Calls Tryz.prog 17 #[u, v] w fun e w' => e = .returned (.bool true) ∧ Below w.heap.size w w' := by
  obtain ⟨p, c, rfl⟩ := hu.shape
  obtain ⟨p2, c2, rfl⟩ := hv.shape
  go_enter Tryz.func17, Tryz.ntmps17
  go_wp2
  go_loopw [5] (fun i wr => ∃ k : Nat, i = .int .i64 k ∧ k ≤ xs.length ∧ Below w.heap.size w wr) (fun i _ => xs.length - (intOf i).toNat)
  case atStart => exact ⟨0, rfl, by omega, Below.refl _ _⟩
  case round =>
    obtain ⟨k, rfl, hk, hb⟩ := hrel
    by_cases hlt : k < xs.length
    · obtain ⟨x, hx⟩ : ∃ x, xs[k]? = some x := ⟨xs[k], by simp [hlt]⟩
      obtain ⟨g, rfl, cx, hg⟩ := (hu.gr hb).get hx
      obtain ⟨g2, rfl, cy, hg2⟩ := (hv.gr hb).get hx
      have hd7 : decide ((k : Int) < xs.length) = true := by simp; omega
      have hd8 : decide ((0 : Int) ≤ (k : Int) ∧ (k : Int) < (xs.length : Int)) = true := by simp; omega
      have e1 : IntKind.i64.wrap ((k : Int) + 1) = (k : Int) + 1 := IntWalk.i64_in _ (by omega)
      clear hx
      go_upto_region 6 with fail
      go_quiet (fail)
      go_wp2
      exact ⟨⟨k + 1, by simp, by omega, ⟨hb.os, hb.tape, hb.output, hb.size, hb.block⟩⟩, by simp [intOf]; omega⟩
    · have hd7 : decide ((k : Int) < xs.length) = false := by simp; omega
      go_wp2
      go_returns
      exact ⟨rfl, hb⟩
theorem compact1 (a : Int) : Lib.compact [a] = [a] := by
  simp [Lib.compact, Lib.compactUpTo, Lib.keeps, List.range, List.range.loop]
theorem compact2 (a b : Int) : Lib.compact [a, b] = if a = b then [a] else [a, b] := by
  by_cases h : a = b
  · subst h; simp [Lib.compact, Lib.compactUpTo, Lib.keeps, List.range, List.range.loop]
  · have h' : ¬ b = a := fun e => h e.symm
    simp [Lib.compact, Lib.compactUpTo, Lib.keeps, List.range, List.range.loop, h, h']
theorem sort0 : Lib.compact (([] : List Int).mergeSort fun x y => decide (x ≤ y)) = [] := by
  rw [List.mergeSort_nil]; simp [Lib.compact, Lib.compactUpTo]
theorem sort1 (a : Int) : Lib.compact ([a].mergeSort fun x y => decide (x ≤ y)) = [a] := by
  rw [List.mergeSort_singleton, compact1]
theorem sort2 (a b : Int) : Lib.compact ([a, b].mergeSort fun x y => decide (x ≤ y)) = if a = b then [a] else [min a b, max a b] := by
  have h : ([a, b].mergeSort fun x y => decide (x ≤ y)) = if a ≤ b then [a, b] else [b, a] := by
    by_cases h : a ≤ b <;> simp [List.mergeSort, List.merge, List.MergeSort.Internal.splitInTwo, h]
  rw [h]
  by_cases h1 : a = b
  · subst h1; simp [compact2]
  · by_cases h2 : a ≤ b
    · rw [if_pos h2, if_neg h1, Int.min_eq_left h2, Int.max_eq_right h2, compact2, if_neg h1]
    · have h3 : b ≤ a := by omega
      rw [if_neg h2, if_neg h1, Int.min_eq_right h3, Int.max_eq_left h3, compact2, if_neg (Ne.symm h1)]
theorem nrow1 (W : World) (a : Int) : NRow (W.alloc (.cells #[.int .i64 a] 3)) (.slice (some ⟨W.heap.size, 0, none⟩) 1 1) [a] := by
  refine .inr ⟨_, 1, rfl, by simp, fun j x hx => ?_⟩
  match j, hx with
  | 0, hx => cases hx; exact cellOf (World.alloc_heap_new W _) rfl
theorem nrow2 (W : World) (a b : Int) : NRow (W.alloc (.cells #[.int .i64 a, .int .i64 b] 3)) (.slice (some ⟨W.heap.size, 0, none⟩) 2 2) [a, b] := by
  refine .inr ⟨_, 2, rfl, by simp, fun j x hx => ?_⟩
  match j, hx with
  | 0, hx => cases hx; exact cellOf (World.alloc_heap_new W _) rfl
  | 1, hx => cases hx; exact cellOf (World.alloc_heap_new W _) rfl
set_option maxHeartbeats 2000000 in
theorem rnext_any (n₀ : Nat → Prop) (sv : Value) (L : List Sl) (at_ : Int) (w : World) (hL : Slots n₀ w sv L) : Calls Tryz.prog 19 #[sv, .int .i64 at_] w fun e w' => ∃ v, e = .returned v ∧ NRow w' v (nextM L at_) ∧ Below w.heap.size w w' := by
  have k1 := rkindAt_any n₀ sv L at_ w hL
  have hlen := hL.len
  unfold nextM leadsM
  cases hx : slotAt L at_ with
  | none =>
    rw [kindM, hx] at k1
    dsimp only at k1 ⊢
    go_enter Tryz.func19, Tryz.ntmps19
    go_wp2_with first | (go_at_call 33; refine k1.mono ?_; rintro e w' ⟨rfl, hg⟩)
    go_returns
    exact ⟨_, rfl, .inl ⟨sort0, _, _, rfl⟩, hg.below⟩
  | some x =>
    rw [kindM, hx] at k1
    dsimp only at k1 ⊢
    obtain ⟨h0, h1⟩ := slotAt_some hx
    have hal := (List.getElem?_eq_some_iff.1 h1).1
    obtain ⟨b, off, cap, rfl, hb, hC, ⟨_, _, _, ⟨f0, f1⟩, _⟩, hlt⟩ := hL.here.get h0 h1
    have e1 : IntKind.i64.wrap (at_ + 1) = at_ + 1 := IntWalk.i64_in _ (by omega)
    have e2 : IntKind.i64.wrap (at_ + 2) = at_ + 2 := IntWalk.i64_in _ (by omega)
    have e3 : IntKind.i64.wrap (at_ + 1 + x.f) = at_ + 1 + x.f := IntWalk.i64_in _ (by omega)
    have e5 : IntKind.i64.wrap x.f = x.f := IntWalk.i64_in _ (by omega)
    have hcel : ∀ W, Gr w W → Cell5 W b (off + at_.toNat * 5) x := fun W h => hC.below hb h.below
    by_cases q0 : x.k = 0
    · rw [q0] at k1
      rw [if_pos (.inl q0)]
      go_enter Tryz.func19, Tryz.ntmps19
      go_wp2_with first | (go_at_call 33; refine k1.mono ?_; rintro e w' ⟨rfl, hg⟩; obtain ⟨c0, c1, c2, c3, c4⟩ := hcel w' hg)
      go_returns
      exact ⟨_, rfl, .inl ⟨sort0, _, _, rfl⟩, hg.below⟩
    by_cases q8 : x.k = 8
    · rw [q8] at k1
      rw [if_pos (.inr q8)]
      go_enter Tryz.func19, Tryz.ntmps19
      go_wp2_with first | (go_at_call 33; refine k1.mono ?_; rintro e w' ⟨rfl, hg⟩; obtain ⟨c0, c1, c2, c3, c4⟩ := hcel w' hg)
      go_returns
      exact ⟨_, rfl, .inl ⟨sort0, _, _, rfl⟩, hg.below⟩
    rw [if_neg (by omega)]
    by_cases q10 : x.k = 10
    · rw [q10] at k1
      rw [if_pos q10, sort1]
      go_enter Tryz.func19, Tryz.ntmps19
      go_wp2_with first | (go_at_call 33; refine k1.mono ?_; rintro e w' ⟨rfl, hg⟩; obtain ⟨c0, c1, c2, c3, c4⟩ := hcel w' hg)
      go_returns
      exact ⟨_, rfl, nrow1 _ _, hg.below.alloc hg.below.size _⟩
    rw [if_neg q10]
    by_cases q5 : x.k = 5
    · rw [q5] at k1
      rw [if_pos q5, sort2]
      by_cases ht : at_ + 1 = at_ + 1 + x.f
      · rw [if_pos ht]
        have e6 : IntKind.i64.wrap (at_ + 1 + x.f) = at_ + 1 := by rw [e3]; omega
        clear e3 ht
        go_enter Tryz.func19, Tryz.ntmps19
        go_wp2_with first | (go_at_call 33; refine k1.mono ?_; rintro e w' ⟨rfl, hg⟩; obtain ⟨c0, c1, c2, c3, c4⟩ := hcel w' hg)
        go_returns
        exact ⟨_, rfl, nrow1 _ _, hg.below.alloc hg.below.size _⟩
      · have hq : (at_ + 1 + x.f == at_ + 1) = false := by simp; omega
        have hq4 : ¬ at_ + 1 + x.f = at_ + 1 := by omega
        rw [if_neg ht]
        by_cases hlt2 : x.f < 0
        · have m1 : min (at_ + 1) (at_ + 1 + x.f) = at_ + 1 + x.f := by omega
          have m2 : max (at_ + 1) (at_ + 1 + x.f) = at_ + 1 := by omega
          have m3 : min (at_ + 1 + x.f) (at_ + 1) = at_ + 1 + x.f := by omega
          have m4 : max (at_ + 1 + x.f) (at_ + 1) = at_ + 1 := by omega
          rw [m1, m2]
          go_enter Tryz.func19, Tryz.ntmps19
          go_wp2_with first | (go_at_call 33; refine k1.mono ?_; rintro e w' ⟨rfl, hg⟩; obtain ⟨c0, c1, c2, c3, c4⟩ := hcel w' hg)
          go_returns
          exact ⟨_, rfl, nrow2 _ _ _, hg.below.alloc hg.below.size _⟩
        · have m1 : min (at_ + 1) (at_ + 1 + x.f) = at_ + 1 := by omega
          have m2 : max (at_ + 1) (at_ + 1 + x.f) = at_ + 1 + x.f := by omega
          have m3 : min (at_ + 1 + x.f) (at_ + 1) = at_ + 1 := by omega
          have m4 : max (at_ + 1 + x.f) (at_ + 1) = at_ + 1 + x.f := by omega
          rw [m1, m2]
          go_enter Tryz.func19, Tryz.ntmps19
          go_wp2_with first | (go_at_call 33; refine k1.mono ?_; rintro e w' ⟨rfl, hg⟩; obtain ⟨c0, c1, c2, c3, c4⟩ := hcel w' hg)
          go_returns
          exact ⟨_, rfl, nrow2 _ _ _, hg.below.alloc hg.below.size _⟩
    rw [if_neg q5]
    by_cases q9 : x.k = 9
    · rw [q9] at k1
      rw [if_pos q9, sort1]
      go_enter Tryz.func19, Tryz.ntmps19
      go_wp2_with first | (go_at_call 33; refine k1.mono ?_; rintro e w' ⟨rfl, hg⟩; obtain ⟨c0, c1, c2, c3, c4⟩ := hcel w' hg)
      go_returns
      exact ⟨_, rfl, nrow1 _ _, hg.below.alloc hg.below.size _⟩
    rw [if_neg q9, sort1]
    have p0 : (x.k == 0) = false := by simpa using q0
    have p8 : (x.k == 8) = false := by simpa using q8
    have p10 : (x.k == 10) = false := by simpa using q10
    have p5 : (x.k == 5) = false := by simpa using q5
    have p9 : (x.k == 9) = false := by simpa using q9
    go_enter Tryz.func19, Tryz.ntmps19
    go_wp2_with first | (go_at_call 33; refine k1.mono ?_; rintro e w' ⟨rfl, hg⟩; obtain ⟨c0, c1, c2, c3, c4⟩ := hcel w' hg)
    go_returns
    exact ⟨_, rfl, nrow1 _ _, hg.below.alloc hg.below.size _⟩

set_option maxHeartbeats 2000000 in
theorem crencode_any (sv : Value) (L : List Sl) (w : World) (hL : Slots AnyB w sv L) : Calls Tryz.prog 14 #[sv] w fun e w' => e = .returned (.string ⟨(encL L).toArray⟩) ∧ Below w.heap.size w w' := by
  have hlen := hL.len
  obtain ⟨p, c, rfl⟩ := hL.shape
  go_enter Tryz.func14, Tryz.ntmps14
  go_wp2
  go_loopw [3, 4] (fun s i wr => ∃ (k : Nat) (t : ByteArray), s = .string t ∧ i = .int .i64 k ∧ k ≤ L.length ∧ t.data.toList = encL (L.take k) ∧ t.size ≤ 8 * k ∧ Below w.heap.size w wr) (fun _ i _ => L.length - (intOf i).toNat)
  case atStart => exact ⟨0, ⟨#[]⟩, rfl, rfl, by omega, rfl, by decide, Below.refl _ _⟩
  case round =>
    obtain ⟨k, t, rfl, rfl, hk, ht, htz, hb⟩ := hrel
    replace ht : Hid (t.data.toList = encL (L.take k)) := ht
    by_cases hlt : k < L.length
    · obtain ⟨x, hx⟩ : ∃ x, L[k]? = some x := ⟨L[k], by simp [hlt]⟩
      obtain ⟨b, off, cap, he, hb0, ⟨c0, c1, c2, c3, c4⟩, ⟨⟨o0, o1⟩, ⟨d0, d1⟩, ⟨s0, s1⟩, _⟩, hlt2⟩ := (hL.gr hb).here.get (at_ := (k : Int)) (by omega) (by simpa using hx)
      cases he
      simp only [Int.toNat_natCast] at c0 c1 c2 c3 c4
      have hd7 : decide ((k : Int) < L.length) = true := by simp; omega
      have hd8 : decide ((0 : Int) ≤ (k : Int) ∧ (k : Int) < (L.length : Int)) = true := by simp; omega
      have e1 : IntKind.i64.wrap ((k : Int) + 1) = (k : Int) + 1 := IntWalk.i64_in _ (by omega)
      have kr := fun W => rencode_any x.o x.d x.s x.f x.i o0 o1 d0 d1 s0 s1 W
      have hes : (encB x.o x.d x.s x.f x.i).size = 8 := by have := bytes_len x (hL.ok x (List.mem_of_getElem? hx)); rw [Sl.bytes, Array.length_toList] at this; exact this
      have hsz : ¬ 9223372036854775807 < t.size + (encB x.o x.d x.s x.f x.i).size := by omega
      have hsn := encL_snoc L k x hx
      have hdat : (t ++ encB x.o x.d x.s x.f x.i).data.toList = encL (L.take (k + 1)) := by
        rw [hsn, ← ht.out]; simp [Sl.bytes]
      have hdz : (t ++ encB x.o x.d x.s x.f x.i).size ≤ 8 * (k + 1) := by rw [ByteArray.size_append]; omega
      replace hdat : Hid ((t ++ encB x.o x.d x.s x.f x.i).data.toList = encL (L.take (k + 1))) := hdat
      clear hsn hx
      generalize encB x.o x.d x.s x.f x.i = ex at kr hes hsz hdat hdz
      replace hes : True := trivial
      go_wp2_with first | (go_at_call 37; refine (kr _).mono ?_; rintro e w2 ⟨rfl, hb2⟩)
      exact ⟨⟨k + 1, _, rfl, by simp, by omega, hdat.out, hdz, hb.trans (hb2.mono hb.size)⟩, by simp [intOf]; omega⟩
    · have hd7 : decide ((k : Int) < L.length) = false := by simp; omega
      have hfin : Hid (t = ⟨(encL L).toArray⟩) := by
        show t = _
        have := ht.out
        rw [List.take_of_length_le (by omega)] at this
        cases t with | mk d => simp at this; rw [← this]
      go_wp2
      go_returns
      exact ⟨by rw [← hfin.out]; rfl, hb⟩

set_option maxHeartbeats 2000000 in
theorem same_any (u v : Value) (L : List Sl) (w : World) (hu : Slots AnyB w u L) (hv : Slots AnyB w v L) : Calls Tryz.prog 12 #[u, v] w fun e w' => e = .returned (.bool true) ∧ Below w.heap.size w w' := by
  have hlen := hu.len
  obtain ⟨p, c, rfl⟩ := hu.shape
  obtain ⟨p2, c2, rfl⟩ := hv.shape
  go_enter Tryz.func12, Tryz.ntmps12
  go_wp2
  go_loopw [5] (fun i wr => ∃ k : Nat, i = .int .i64 k ∧ k ≤ L.length ∧ Below w.heap.size w wr) (fun i _ => L.length - (intOf i).toNat)
  case atStart => exact ⟨0, rfl, by omega, Below.refl _ _⟩
  case round =>
    obtain ⟨k, rfl, hk, hb⟩ := hrel
    by_cases hlt : k < L.length
    · obtain ⟨x, hx⟩ : ∃ x, L[k]? = some x := ⟨L[k], by simp [hlt]⟩
      obtain ⟨b, off, cap, he, hb0, ⟨c0, c1, c2, c3, c4⟩, _, hlt2⟩ := (hu.gr hb).here.get (at_ := (k : Int)) (by omega) (by simpa using hx)
      cases he
      obtain ⟨b', off', cap', he, hb0', ⟨g0, g1, g2, g3, g4⟩, _, hlt2'⟩ := (hv.gr hb).here.get (at_ := (k : Int)) (by omega) (by simpa using hx)
      cases he
      simp only [Int.toNat_natCast] at c0 c1 c2 c3 c4 g0 g1 g2 g3 g4
      have hd7 : decide ((k : Int) < L.length) = true := by simp; omega
      have hd8 : decide ((0 : Int) ≤ (k : Int) ∧ (k : Int) < (L.length : Int)) = true := by simp; omega
      have e1 : IntKind.i64.wrap ((k : Int) + 1) = (k : Int) + 1 := IntWalk.i64_in _ (by omega)
      clear hx
      go_upto_region 6 with fail
      go_quiet (fail)
      go_wp2
      exact ⟨⟨k + 1, by simp, by omega, ⟨hb.os, hb.tape, hb.output, hb.size, hb.block⟩⟩, by simp [intOf]; omega⟩
    · have hd7 : decide ((k : Int) < L.length) = false := by simp; omega
      go_wp2
      go_returns
      exact ⟨rfl, hb⟩
theorem slots_row {w : World} {base : Nat} {v : Value} {L : List Sl} (hl : L.length ≤ 4096) (hok : ∀ x ∈ L, x.ok) (h : w.ownsRow base 53 5 v L.length (L.flatMap Sl.cells)) : Slots AnyB w v L := by
  refine ⟨hok, hl, ?_⟩
  rcases h.2 with ⟨rfl, h0⟩ | ⟨g, cap, cur, rfl, hb, hg, hn, _, hs, ht⟩
  · exact .inl ⟨⟨none, 0, rfl⟩, List.eq_nil_of_length_eq_zero h0⟩
  · refine .inr ⟨g, 0, cap, rfl, trivial, (Array.getElem?_eq_some_iff.1 hg).1, fun j x hx => ?_⟩
    have hj := (List.getElem?_eq_some_iff.1 hx).1
    have key : ∀ (m : Nat) (u : Value), (L.flatMap Sl.cells)[m]? = some u → w.cell? ⟨g, 0 + m, none⟩ = some u := fun m u hu => by
      rw [Nat.zero_add]
      refine cellOf hg ?_
      rw [← ht, List.getElem?_take] at hu
      split at hu
      · simpa using hu
      · cases hu
    obtain ⟨f0, f1, f2, f3, f4⟩ := fl5_get L j x hx
    have q0 := key _ _ f0
    have q1 := key _ _ f1
    have q2 := key _ _ f2
    have q3 := key _ _ f3
    have q4 := key _ _ f4
    exact ⟨q0, q1, q2, q3, q4⟩
theorem cell_five_new (W : World) (x : Sl) (t : TypeId) : ∀ (j : Nat) (u : Value), x.cells[j]? = some u → (W.alloc (.cells #[.int .u8 x.o, .int .u8 x.d, .int .u8 x.s, .int .i16 x.f, .int .i32 x.i] t)).cell? (Addr.add ⟨W.heap.size, 0, none⟩ j) = some u := by
  intro j u hu
  have hb := World.alloc_heap_new W (.cells #[.int .u8 x.o, .int .u8 x.d, .int .u8 x.s, .int .i16 x.f, .int .i32 x.i] t)
  match j, hu with
  | 0, hu => exact cellOf hb (by simpa [Sl.cells] using hu)
  | 1, hu => exact cellOf hb (by simpa [Sl.cells] using hu)
  | 2, hu => exact cellOf hb (by simpa [Sl.cells] using hu)
  | 3, hu => exact cellOf hb (by simpa [Sl.cells] using hu)
  | 4, hu => exact cellOf hb (by simpa [Sl.cells] using hu)
theorem cell_five_at (W : World) (x : Sl) (t : TypeId) {g : Nat} (hg : g = W.heap.size) : ∀ (j : Nat) (u : Value), x.cells[j]? = some u → (W.alloc (.cells #[.int .u8 x.o, .int .u8 x.d, .int .u8 x.s, .int .i16 x.f, .int .i32 x.i] t)).cell? (Addr.add ⟨g, 0, none⟩ j) = some u := by
  subst hg; exact cell_five_new W x t
theorem own_none {w : World} {base : Nat} {e : TypeId} {size : Nat} {v : Value} {n : Nat} {xs : List Value} (h : w.ownsRow base e size v n xs) : v.ownBlock = none ∨ v.ownBlock ≠ none := by
  cases v.ownBlock
  · exact .inl rfl
  · exact .inr (by simp)
theorem crdecode_form (s : ByteArray) (h : s.size % 8 ≠ 0) (w : World) : Calls Tryz.prog 9 #[.string s] w fun e w' => e = .returned (.tuple #[.slice none 0 0, .int .i64 8]) ∧ w' = w := by
  have e1 : ((s.size : Int) % 8 != 0) = true := by simp; omega
  go_enter Tryz.func9, Tryz.ntmps9
  go_wp2_with fail
  go_returns
  exact ⟨rfl, rfl⟩
theorem decL_snoc (s : ByteArray) (k : Nat) : decL s (k + 1) = decL s k ++ [decSl (s.extract (k * 8) ((k + 1) * 8))] := by
  simp [decL, List.range_succ]
theorem decL_len (s : ByteArray) (k : Nat) : (decL s k).length = k := by simp [decL]
set_option maxHeartbeats 4000000 in
theorem crdecode_ok (s : ByteArray) (n : Nat) (h : s.size = 8 * n) (h2 : n ≤ 1024) (w : World) : Calls Tryz.prog 9 #[.string s] w fun e w' => ∃ v, e = .returned (.tuple #[v, .int .i64 0]) ∧ w'.ownsRow w.heap.size 53 5 v n ((decL s n).flatMap Sl.cells) ∧ Below w.heap.size w w' := by
  have e1 : ((s.size : Int) % 8 != 0) = false := by simp; omega
  have e2 : decide ((8192 : Int) < s.size) = false := by simp; omega
  obtain ⟨i5, hi5, hz50, hz51, hz52⟩ := info_parts info53
  replace h : Hid (s.size = 8 * n) := h
  go_enter Tryz.func9, Tryz.ntmps9
  go_wp2_with fail
  go_loopw [4, 5] (fun v i wr => ∃ k : Nat, i = .int .i64 ((k * 8 : Nat) : Int) ∧ k ≤ n ∧ wr.ownsRow w.heap.size 53 5 v k ((decL s k).flatMap Sl.cells) ∧ Below w.heap.size w wr) (fun _ i _ => s.size - (intOf i).toNat)
  case atStart => exact ⟨0, rfl, by omega, World.ownsRow_nil _ _ _ _, Below.refl _ _⟩
  case round =>
    obtain ⟨k, rfl, hk, hrow, hb⟩ := hrel
    by_cases hlt : k < n
    · have hd7 : decide (((k * 8 : Nat) : Int) < s.size) = true := by have := h.out; simp; omega
      have hd7b : decide ((k : Int) * 8 < s.size) = true := by have := h.out; simp; omega
      have e3 : IntKind.i64.wrap (((k * 8 : Nat) : Int) + 8) = (((k + 1) * 8 : Nat) : Int) := by rw [IntWalk.i64_in _ (by omega)]; omega
      have e4 : IntKind.i64.wrap ((k : Int) * 8 + 8) = (((k + 1) * 8 : Nat) : Int) := by rw [IntWalk.i64_in _ (by omega)]; omega
      have hct : ∀ W, (Instr.slice 9 (.string s) (some (.int .i64 ((k * 8 : Nat) : Int))) (some (.int .i64 (((k + 1) * 8 : Nat) : Int))) none).run Tryz.prog W = .ok (.string (s.extract (k * 8) ((k + 1) * 8))) W := fun W => by
        have := run_slice_string W 9 s .i64 .i64 ((k * 8 : Nat) : Int) (((k + 1) * 8 : Nat) : Int) Tryz.underlying9 (by omega) (by omega) (by have := h.out; omega)
        simpa only [Int.toNat_natCast] using this
      have hsz : (s.extract (k * 8) ((k + 1) * 8)).size = 8 := by have := h.out; simp; omega
      have kd := fun W => rdecode_8 (s.extract (k * 8) ((k + 1) * 8)) hsz W
      have hsn := decL_snoc s k
      obtain ⟨x, hx⟩ : ∃ x, decSl (s.extract (k * 8) ((k + 1) * 8)) = x := ⟨_, rfl⟩
      rw [hx] at hsn
      have kd2 : ∀ W, Calls Tryz.prog 29 #[.string (s.extract (k * 8) ((k + 1) * 8))] W fun e w' => e = .returned (.tuple #[ins x.o x.d x.s x.f x.i, .int .i64 0]) ∧ Gr W w' := fun W => by
        rw [← hx]; exact kd W
      clear kd hsz hx
      generalize s.extract (k * 8) ((k + 1) * 8) = px at hct kd2
      have hnew : (decL s (k + 1)).flatMap Sl.cells = (decL s k).flatMap Sl.cells ++ x.cells := by rw [hsn]; simp
      replace hnew : Hid ((decL s (k + 1)).flatMap Sl.cells = (decL s k).flatMap Sl.cells ++ x.cells) := hnew
      clear hsn
      generalize hkk : (k + 1) * 8 = k1 at e3 e4 hct
      generalize hkz : k * 8 = k0 at hct e3 hd7 ⊢
      have hk01 : k0 < k1 ∧ k1 ≤ s.size := by have := h.out; omega
      replace hkk : Hid ((k + 1) * 8 = k1) := hkk
      replace hkz : Hid (k * 8 = k0) := hkz
      clear hd7b e4
      go_wp2_with first | (go_at_call 29; refine (kd2 _).mono ?_; rintro e w2 ⟨rfl, hg2⟩; have hrow2 := hrow.kept (row := none) (w' := w2) ⟨hg2.below.os, hg2.below.tape, hg2.below.output, hg2.below.size, fun i hi _ => hg2.below.block i hi⟩ (own_none hrow); have hb2 := hb.trans (hg2.below.mono hb.size)) | (refine wpList_append_own _ rfl _ _ 22 rfl w.heap.size 53 i5 (.agg #[.int .u8 0, .int .u8 0, .int .u8 0, .int .i16 0, .int .i32 0]) 5 12 Tryz.underlying22 hi5 hz50 hz51 hz52 rfl (by decide) _ _ _ rfl ((hrow2.alloc _).alloc _) _ 1 1 x.cells rfl rfl (cell_five_at _ x _ (by simp)) (by simp [Value.oneCell', Sl.cells]) (by simp [maxLen]; omega) (by omega) (by have := hb2.size; simp; omega) ?_; intro v' wa hown' hgrow hnil; skip)
      have hbw : Below w.heap.size w wa := (((hb2.alloc hb2.size (.cells #[.int .u8 x.o, .int .u8 x.d, .int .u8 x.s, .int .i16 x.f, .int .i32 x.i] 53)).alloc (by have := hb2.size; simp; omega) (.cells #[.int .u8 x.o, .int .u8 x.d, .int .u8 x.s, .int .i16 x.f, .int .i32 x.i] 53))).grown hgrow (by have := hb2.size; simp; omega) (fun j hj => (hrow2.lt j hj).1)
      refine ⟨⟨k + 1, by have := hkk.out; rw [this], by omega, by rw [hnew.out]; exact hown', hbw⟩, by simp [intOf]; omega⟩
    · have hd7 : decide (((k * 8 : Nat) : Int) < s.size) = false := by have := h.out; simp; omega
      have hd7b : decide ((k : Int) * 8 < s.size) = false := by have := h.out; simp; omega
      obtain rfl : k = n := by omega
      go_wp2_with fail
      go_returns
      exact ⟨_, rfl, hrow, hb⟩

theorem decSl_ok (t : ByteArray) : (decSl t).ok := by
  have h0 := bt_bd t 0
  have h1 := bt_bd t 1
  refine ⟨h0, ⟨?_, ?_⟩, ⟨?_, ?_⟩, offV_in t, immV_in t⟩ <;> simp only [decSl] <;> omega
theorem decL_ok (s : ByteArray) (n : Nat) : ∀ x ∈ decL s n, x.ok := by
  intro x hx
  obtain ⟨k, _, rfl⟩ := List.mem_map.1 hx
  exact decSl_ok _
theorem flat5_len (L : List Sl) : (L.flatMap Sl.cells).length = L.length * 5 := by
  induction L with
  | nil => rfl
  | cons x L ih => rw [List.flatMap_cons, List.length_append, ih]; simp [Sl.cells]; omega
/-- What both Decodes tell of a text that is not too long. -/
theorem decode_both (s : ByteArray) (hs : s.size ≤ 2048) : ∃ (M : List Sl) (e : Int), (∀ W, Calls Tryz.prog 8 #[.string s] W fun r w' => ∃ v, r = .returned (.tuple #[v, .int .i64 e]) ∧ Slots AnyB w' v M ∧ Below W.heap.size W w') ∧ (∀ W, Calls Tryz.prog 9 #[.string s] W fun r w' => ∃ v, r = .returned (.tuple #[v, .int .i64 e]) ∧ Slots AnyB w' v M ∧ Below W.heap.size W w') := by
  by_cases h8 : s.size % 8 = 0
  · obtain ⟨n, hn⟩ : ∃ n, s.size = 8 * n := ⟨s.size / 8, by omega⟩
    have hl := decL_len s n
    refine ⟨decL s n, 0, fun W => (cdecode_ok s n hn (by omega) W).mono ?_, fun W => (crdecode_ok s n hn (by omega) W).mono ?_⟩
    · rintro r w' ⟨rfl, hc, hb⟩
      refine ⟨_, rfl, ?_, hb⟩
      refine slots_row (base := 0) (by omega) (decL_ok s n) ⟨by rw [flat5_len], .inr ⟨W.heap.size, n, _, by rw [hl], Nat.zero_le _, hc, by omega, by simp [maxLen]; omega, by rw [List.size_toArray, flat5_len, hl], ?_⟩⟩
      rw [hl, List.take_of_length_le (by rw [List.toList_toArray, flat5_len, hl]; exact Nat.le_refl _)]
    · rintro r w' ⟨v, rfl, hrow, hb⟩
      refine ⟨_, rfl, slots_row (base := W.heap.size) (by omega) (decL_ok s n) ?_, hb⟩
      rw [hl]; exact hrow
  · refine ⟨[], 8, fun W => (cdecode_form s h8 W).mono ?_, fun W => (crdecode_form s h8 W).mono ?_⟩
    · rintro r w' ⟨rfl, rfl⟩
      exact ⟨_, rfl, ⟨by simp, by simp, .inl ⟨⟨none, 0, rfl⟩, rfl⟩⟩, Below.refl _ _⟩
    · rintro r w' ⟨rfl, rfl⟩
      exact ⟨_, rfl, ⟨by simp, by simp, .inl ⟨⟨none, 0, rfl⟩, rfl⟩⟩, Below.refl _ _⟩
theorem nextM_len (L : List Sl) (at_ : Int) : (nextM L at_).length ≤ 2 := by
  have h := leadsM_len L at_
  unfold nextM Lib.compact Lib.compactUpTo
  rw [List.length_map]
  refine Nat.le_trans (List.length_filter_le _ _) ?_
  rw [List.length_range, List.length_mergeSort]; exact h
end Go.Proofs.YtdmdmbcapjmnlaaGreat
