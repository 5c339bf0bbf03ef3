/- Towards the statements of package code (layer 8): programs as arguments; CodeCovers, its mathematics and its walk. -/
import Derived.Test.YtdmdmbcapjmnlaaGreatDB
import Derived.Test.YtdmdmbcapjmnlaaGreatDC
import Derived.Test.YtdmdmbcapjmnlaaGreatMB
import Derived.Carry
import Derived.ChangeSlices
import Derived.OpenShut
import Derived.ProofKit
import Derived.ShutString
import Derived.WalkKit
namespace Go.Proofs.YtdmdmbcapjmnlaaGreat
open Go.ChangeShapes Go.WideShapes Go.ChangeAt
open Go.RowKit Go.Shelf
set_option linter.unusedVariables false
set_option linter.unusedSimpArgs false
set_option linter.unusedSectionVars false
set_option maxRecDepth 20000
/-- A row of bytes that lies at cv. -/
structure Row8 (w : World) (cv : Value) (C : List Int) : Prop where
  ok : ∀ x ∈ C, 0 ≤ x ∧ x ≤ 255
  at' : ((∃ p cap, cv = .slice p 0 cap) ∧ C = []) ∨ ∃ b off cap, cv = .slice (some ⟨b, off, none⟩) C.length cap ∧ b < w.heap.size ∧ ∀ (j : Nat) (x : Int), C[j]? = some x → w.cell? ⟨b, off + j, none⟩ = some (.int .u8 x)
theorem Row8.gr {w w' : World} {cv : Value} {C : List Int} (h : Row8 w cv C) (hb : Below w.heap.size w w') : Row8 w' cv C := by
  refine ⟨h.ok, ?_⟩
  rcases h.at' with e | ⟨b, off, cap, e, hlt, hc⟩
  · exact .inl e
  · exact .inr ⟨b, off, cap, e, Nat.lt_of_lt_of_le hlt hb.size, fun j x hx => (hb.cell (p := ⟨b, off + j, none⟩) hlt).trans (hc j x hx)⟩
theorem Row8.shape {w : World} {cv : Value} {C : List Int} (h : Row8 w cv C) : ∃ p cap, cv = .slice p C.length cap := by
  rcases h.at' with ⟨⟨p, cap, e⟩, e2⟩ | ⟨b, off, cap, e, _⟩
  · exact ⟨p, cap, by rw [e, e2]; rfl⟩
  · exact ⟨_, _, e⟩
theorem chk_passed {L : List Sl} (h : (chkM L).2 = 0) : Passed L 8 := by
  have key : ∀ n, n ≤ 8 → Passed L n := by
    intro n
    induction n with
    | zero => exact fun _ m hm => by omega
    | succ n ih =>
      intro hn
      have hp := ih (by omega)
      refine hp.snoc ?_
      by_cases he : (chkX L n).2 = 0
      · exact he
      · rw [chk_err (by omega) hp he] at h
        exact absurd h he
  exact key 8 (Nat.le_refl _)
theorem own_nil {w w' : World} {v : Value} {xs : List Int} (h : Own w w' v xs) (hx : xs = []) : ∃ p cap, v = .slice p 0 cap := by
  subst hx
  rcases h.1.2 with ⟨e, _⟩ | ⟨g, cap, cur, e, _⟩
  · exact ⟨none, 0, e⟩
  · exact ⟨_, _, e⟩
theorem own_get {w w' : World} {v : Value} {xs : List Int} (h : Own w w' v xs) (hx : xs ≠ []) : ∃ g cap, v = .slice (some ⟨g, 0, none⟩) xs.length cap ∧ ∀ (j : Nat) (x : Int), xs[j]? = some x → w'.cell? ⟨g, j, none⟩ = some (.int .i64 x) := by
  rcases h.1.2 with ⟨_, h0⟩ | ⟨g, cap, cur, e, hb, hg, hn, _, hs', ht⟩
  · simp at h0; exact absurd h0 hx
  · refine ⟨g, cap, e, fun j x hj => ?_⟩
    unfold World.cell?
    rw [hg]
    have h1 : (xs.map (Value.int .i64))[j]? = some (.int .i64 x) := by simp [hj]
    rw [← ht, List.getElem?_take] at h1
    split at h1
    · simpa using h1
    · cases h1
theorem next_mem {L : List Sl} {u x : Int} : x ∈ nextM L u ↔ x ∈ leadsM L u := by
  have hsort : ((leadsM L u).mergeSort fun x y => decide (x ≤ y)).Pairwise (· ≤ ·) := by
    have := List.pairwise_mergeSort (le := fun x y : Int => decide (x ≤ y)) (fun a b c h1 h2 => by simp at *; omega) (fun a b => by simp; omega) (leadsM L u)
    exact this.imp fun h => by simpa using h
  rw [nextM, (compact_sorted hsort).2 x, List.mem_mergeSort]
theorem Row8.get {w : World} {p : Option Addr} {n c : Nat} {C : List Int} (h : Row8 w (.slice p n c) C) {i : Nat} {x : Int} (hx : C[i]? = some x) : ∃ b off, p = some ⟨b, off, none⟩ ∧ w.cell? ⟨b, off + i, none⟩ = some (.int .u8 x) ∧ n = C.length ∧ b < w.heap.size := by
  rcases h.at' with ⟨_, e2⟩ | ⟨b, off, cap, e, hlt, hc⟩
  · rw [e2] at hx; simp at hx
  · cases e; exact ⟨b, off, rfl, hc i x hx, rfl, hlt⟩

theorem laidOut : laidOutB Tryz.prog = true := by kernel_rfl
theorem cells53 : Tryz.prog.cellsOf 53 = 5 := by kernel_rfl
theorem cells5 : Tryz.prog.cellsOf 5 = 1 := by kernel_rfl
theorem cells51 : Tryz.prog.cellsOf 51 = 1 := by kernel_rfl
theorem cells21 : Tryz.prog.cellsOf 21 = 1 := by kernel_rfl
theorem wf_u8 {m : Int} (h : (Lit.int .u8 m).wf = true) : 0 ≤ m ∧ m ≤ 255 := by
  simpa [Lit.wf, IntKind.min, IntKind.max, IntKind.signed, IntKind.bits] using h
theorem wf_i16 {m : Int} (h : (Lit.int .i16 m).wf = true) : -32768 ≤ m ∧ m ≤ 32767 := by
  simpa [Lit.wf, IntKind.min, IntKind.max, IntKind.signed, IntKind.bits] using h
theorem wf_i32 {m : Int} (h : (Lit.int .i32 m).wf = true) : -2147483648 ≤ m ∧ m ≤ 2147483647 := by
  simpa [Lit.wf, IntKind.min, IntKind.max, IntKind.signed, IntKind.bits] using h
theorem cell_spot {w : World} {a : Addr} {v : Value} (h : w.cell? a = some v) : a.spot = none := by
  unfold World.cell? at h
  split at h
  · split at h
    · cases h
    · rename_i hs; simpa using hs
  · cases h
theorem add_of {a : Addr} (h : a.spot = none) (n : Nat) : a.add n = ⟨a.block, a.off + n, none⟩ := by
  cases a with | mk b o s =>
  simp only at h
  subst h
  unfold Addr.add
  split
  · rename_i e; subst e; rfl
  · rfl
theorem rows_of {α : Type} {Q : Nat → α → Prop} : ∀ n : Nat, (∀ i, i < n → ∃ x, Q i x) → ∃ L : List α, L.length = n ∧ ∀ j x, L[j]? = some x → Q j x
  | 0, _ => ⟨[], rfl, by simp⟩
  | n + 1, h => by
    obtain ⟨L, hl, hL⟩ := rows_of n fun i hi => h i (by omega)
    obtain ⟨x, hx⟩ := h n (by omega)
    refine ⟨L ++ [x], by simp [hl], fun j y hy => ?_⟩
    by_cases hj : j < n
    · rw [List.getElem?_append_left (by omega)] at hy
      exact hL j y hy
    · have hj2 : j = n := by
        have := (List.getElem?_eq_some_iff.1 hy).1
        simp at this; omega
      subst hj2
      rw [List.getElem?_append_right (by omega), hl] at hy
      simp at hy
      subst hy
      exact hx
theorem len5 {α : Type} {cs : List α} (h : cs.length = 5) : ∃ c0 c1 c2 c3 c4, cs = [c0, c1, c2, c3, c4] := by
  match cs, h with
  | [c0, c1, c2, c3, c4], _ => exact ⟨c0, c1, c2, c3, c4, rfl⟩
section
variable {H : Type} {enc : TypeId × Value → H} {w : World} {spare : Nat → Bool} {held : Bool}
theorem open_one {n : Nat} {cs : List Value} {y : DataW H × List MemPlace} (h : DataW.trod enc Tryz.prog w 0 spare held n 53 cs = some y) :
    ∃ x : Sl, x.ok ∧ cs = [.int .u8 x.o, .int .u8 x.d, .int .u8 x.s, .int .i16 x.f, .int .i32 x.i] := by
  obtain ⟨xs, m, _, hx, hcl, hlen, hi⟩ := DataW.trod_struct Tryz.underlying53 h
  obtain ⟨c0, c1, c2, c3, c4, rfl⟩ := len5 (hcl.trans cells53)
  match xs, hlen with
  | [y0, y1, y2, y3, y4], _ =>
    have h0 := hi 0 _ rfl
    simp [cells5, cells51, cells21] at h0
    obtain ⟨m0, f0, -, w0⟩ := DataW.trod_int Tryz.underlying5 h0
    have h1 := hi 1 _ rfl
    simp [cells5, cells51, cells21] at h1
    obtain ⟨m1, f1, -, w1⟩ := DataW.trod_int Tryz.underlying5 h1
    have h2 := hi 2 _ rfl
    simp [cells5, cells51, cells21] at h2
    obtain ⟨m2, f2, -, w2⟩ := DataW.trod_int Tryz.underlying5 h2
    have h3 := hi 3 _ rfl
    simp [cells5, cells51, cells21] at h3
    obtain ⟨m3, f3, -, w3⟩ := DataW.trod_int Tryz.underlying51 h3
    have h4 := hi 4 _ rfl
    simp [cells5, cells51, cells21] at h4
    obtain ⟨m4, f4, -, w4⟩ := DataW.trod_int Tryz.underlying21 h4
    simp at f0 f1 f2 f3 f4
    subst f0 f1 f2 f3 f4
    exact ⟨⟨m0, m1, m2, m3, m4⟩, ⟨wf_u8 w0, wf_u8 w1, wf_u8 w2, wf_i16 w3, wf_i32 w4⟩, rfl⟩
theorem open_slots {r : Reach} {b0 : Nat} {v : Value} {d : DataW H} {p : List MemPlace} (hv : Value.okWide Tryz.prog w r b0 22 v) (h : DataW.Trod enc Tryz.prog w 0 spare held 22 v d p) :
    ∃ a len cap, v = .slice a len cap ∧ (len ≤ 4096 → ∃ L : List Sl, L.length = len ∧ Slots AnyB w (.slice a len cap) L) := by
  obtain ⟨a, len, cap, rfl⟩ := okWide_slice Tryz.underlying22 hv
  refine ⟨a, len, cap, rfl, fun hlen => ?_⟩
  obtain ⟨fuel, hf⟩ := h
  rcases DataW.trod_slice Tryz.underlying22 hf with ⟨h0, _⟩ | ⟨a', len', cap', elems, rest, n, _, h0, _, _, _, _, hel, hget, _⟩
  · simp [Value.cells] at h0
    obtain ⟨rfl, rfl, rfl⟩ := h0
    exact ⟨[], rfl, by simp, by simp, .inl ⟨⟨none, 0, rfl⟩, rfl⟩⟩
  · simp [Value.cells] at h0
    obtain ⟨rfl, rfl, rfl⟩ := h0
    have each : ∀ i, i < len → ∃ x : Sl, x.ok ∧ a'.spot = none ∧ Cell5 w a'.block (a'.off + i * 5) x ∧ a'.block < w.heap.size := by
      intro i hi
      have h1 := hget i hi
      rw [List.getElem?_eq_getElem (by omega), Option.bind_eq_some_iff] at h1
      obtain ⟨cs, hcs, ht⟩ := h1
      obtain ⟨x, hx, rfl⟩ := open_one ht
      rw [cells53] at hcs
      obtain ⟨_, _, hc⟩ := World.cells?_some hcs
      have g0 := hc 0 (by omega)
      have g1 := hc 1 (by omega)
      have g2 := hc 2 (by omega)
      have g3 := hc 3 (by omega)
      have g4 := hc 4 (by omega)
      simp only [List.getElem?_cons_zero, List.getElem?_cons_succ] at g0 g1 g2 g3 g4
      have hsp : a'.spot = none := by
        have h1 := hget 0 (by omega)
        rw [List.getElem?_eq_getElem (by omega), Option.bind_eq_some_iff] at h1
        obtain ⟨cs, hcs, ht⟩ := h1
        obtain ⟨x, hx, rfl⟩ := open_one ht
        rw [cells53] at hcs
        have g0 := (World.cells?_some hcs).2.2 0 (by omega)
        simp only [List.getElem?_cons_zero] at g0
        have hs := cell_spot g0
        simpa [Addr.add] using hs
      refine ⟨x, hx, hsp, ?_, ?_⟩
      · rw [add_of hsp] at g0 g1 g2 g3 g4
        rw [add_of rfl] at g0 g1 g2 g3 g4
        exact ⟨g0, g1, g2, g3, g4⟩
      · rw [add_of hsp, add_of rfl] at g0
        unfold World.cell? at g0
        split at g0
        · rename_i hh; exact (Array.getElem?_eq_some_iff.1 hh).1
        · cases g0
    obtain ⟨L, hl, hL⟩ := rows_of len each
    refine ⟨L, hl, fun x hx => ?_, by omega, ?_⟩
    · obtain ⟨j, hj⟩ := List.getElem?_of_mem hx
      exact (hL j x hj).1
    · by_cases h0 : len = 0
      · exact .inl ⟨⟨_, _, by rw [h0]⟩, List.eq_nil_of_length_eq_zero (by omega)⟩
      · obtain ⟨x, hx⟩ : ∃ x, L[0]? = some x := ⟨L[0]'(by omega), List.getElem?_eq_getElem _⟩
        obtain ⟨_, hsp, _, hlt⟩ := hL 0 x hx
        refine .inr ⟨a'.block, a'.off, cap, ?_, trivial, hlt, fun j x hx => (hL j x hx).2.2.1⟩
        have : a' = ⟨a'.block, a'.off, none⟩ := by cases a'; simp at hsp; rw [hsp]
        rw [hl, ← this]
theorem open_row8 {r : Reach} {b0 : Nat} {v : Value} {d : DataW H} {p : List MemPlace} (hv : Value.okWide Tryz.prog w r b0 46 v) (h : DataW.Trod enc Tryz.prog w 0 (fun _ => true) held 46 v d p) :
    ∃ a len cap, v = .slice a len cap ∧ ∃ C : List Int, C.length = len ∧ Row8 w (.slice a len cap) C := by
  obtain ⟨a, len, cap, rfl⟩ := okWide_slice Tryz.underlying46 hv
  refine ⟨a, len, cap, rfl, ?_⟩
  obtain ⟨fuel, hf⟩ := h
  rcases open_ints Tryz.underlying46 Tryz.underlying5 cells5 hf with ⟨h0, _⟩ | ⟨a', len', cap', zs, h0, _, hlc, hm, hz, _, hcell, hwz⟩
  · simp [Value.cells] at h0
    obtain ⟨rfl, rfl, rfl⟩ := h0
    exact ⟨[], rfl, by simp, .inl ⟨⟨none, 0, rfl⟩, rfl⟩⟩
  · simp [Value.cells] at h0
    obtain ⟨rfl, rfl, rfl⟩ := h0
    simp only [if_true] at hz
    have hlen : (zs.take len).length = len := by rw [List.length_take]; omega
    refine ⟨zs.take len, hlen, fun x hx => wf_u8 (hwz x (List.mem_of_mem_take hx)), ?_⟩
    by_cases h0 : len = 0
    · exact .inl ⟨⟨_, _, by rw [h0]⟩, List.eq_nil_of_length_eq_zero (by omega)⟩
    · have g0 := hcell 0 (by omega)
      have hsp : a'.spot = none := by have := cell_spot g0; simpa [Addr.add] using this
      refine .inr ⟨a'.block, a'.off, cap, ?_, ?_, fun j x hx => ?_⟩
      · have : a' = ⟨a'.block, a'.off, none⟩ := by cases a'; simp at hsp; rw [hsp]
        rw [hlen, ← this]
      · rw [add_of hsp] at g0
        unfold World.cell? at g0
        split at g0
        · rename_i hh; exact (Array.getElem?_eq_some_iff.1 hh).1
        · cases g0
      · have hj := (List.getElem?_eq_some_iff.1 hx).1
        have g := hcell j (by omega)
        rw [add_of hsp] at g
        rw [List.getElem?_take, if_pos (by omega)] at hx
        rw [List.getD, hx] at g
        exact g
end
/-- Arguments read behind the call as they did ahead of it, if nothing that was there has turned. -/
theorem trodAll_stays {H : Type} {enc : TypeId × Value → H} {W W' : World} (hb : Below W.heap.size W W') {sp : Nat → Bool} : ∀ (ts : List TypeId) (vs : List Value) (ds : List (DataW H)) (ps : List MemPlace), (∀ t ∈ ts, Tryz.prog.readableRec t = true ∧ t < Tryz.prog.types.size) →
    DataW.TrodAll enc Tryz.prog W 0 (fun _ => true) true ts vs ds ps → (∀ x ∈ ps, x.block < W.heap.size) → (∀ x ∈ ps, sp x.block = true) → DataW.TrodAll enc Tryz.prog W' 0 sp true ts vs ds ps
  | [], vs, ds, ps, _, h, _, _ => by
    obtain ⟨rfl, rfl, rfl⟩ := trodAll_nil h
    exact trodAll_mk0
  | t :: ts, vs, ds, ps, hr, h, hlt, hs => by
    obtain ⟨v, vs', d, ds', p, q, rfl, rfl, rfl, h1, h2⟩ := trodAll_cons h
    exact trodAll_cons_mk (WideElems.Trod_stays laidOut (hr t (by simp)).1 (hr t (by simp)).2 h1 (fun x hx => hb.same (hlt x (by simp [hx]))) (fun x hx => hs x (by simp [hx])))
      (trodAll_stays hb ts vs' ds' q (fun t ht => hr t (by simp [ht])) h2 (fun x hx => hlt x (by simp [hx])) (fun x hx => hs x (by simp [hx])))
theorem post_bel {H : Type} {enc : TypeId × Value → H} {f : Func} {s : ChangeSpec} {fresh handsOn again : Bool} {W W' : World} {args : Array Value} {v : Value} {ds : List (DataW H)} {before : List MemPlace}
    (hrd : ∀ t ∈ f.params.toList, Tryz.prog.readableRec t = true ∧ t < Tryz.prog.types.size)
    (hW : DataW.Whole enc Tryz.prog f.params.toList s.vars false W args.toList ds [] before) (hvs : s.vars = [])
    (hres : ∀ (b : Nat) (sp : Nat → Bool) (hd : Bool), DataW.TrodAll enc Tryz.prog W' b sp hd f.resultTypes.toList (v.resultList f.resultTypes.size) (s.fn H (ds ++ [])).results [])
    (hargs : (s.fn H (ds ++ [])).args = ds) (hvars : ∀ sp : Nat → Bool, DataW.TrodVars enc Tryz.prog W' sp s.vars (s.fn H (ds ++ [])).vars [])
    (hb : Below W.heap.size W W')
    (hok : ∀ (j : Nat) (t : TypeId) (r : Value), f.resultTypes[j]? = some t → (v.resultList f.resultTypes.size)[j]? = some r → Value.okWide Tryz.prog W' .any 0 t r) :
    s.post enc Tryz.prog f false fresh handsOn again W args v W' := by
  have hlt : ∀ p ∈ before, p.block < W.heap.size := fun p hp => hW.lt p hp
  obtain ⟨p, q, hA, hV, hpq, hz, hn⟩ := id hW
  have hq : q = [] := by
    rw [hvs] at hV
    exact (trodVars_none hV).2
  subst hq
  rw [List.append_nil] at hpq
  subst hpq
  have key : ∀ sp : Nat → Bool, (∀ x ∈ before, sp x.block = true) → DataW.TrodAll enc Tryz.prog W' 0 sp true f.params.toList args.toList (s.fn H (ds ++ [])).args before := fun sp hs => by
    rw [hargs]
    exact trodAll_stays hb _ _ _ _ hrd hA hlt hs
  refine ⟨ds, [], before, [], before, [], hW, hres _ _ _, key _ (fun x hx => by simpa using hlt x hx), hvars _, World.keptBut_mono (fun p hp => ⟨hp, .inr (.inl hp)⟩) (hb.frame _), fun _ => ?_⟩
  refine ⟨hok, _, _, [] ++ before ++ [], ⟨[] ++ before, [], trodAll_append (key _ (fun _ _ => rfl)) (hres _ _ _), hvars _, rfl, ?_, ?_⟩, ?_⟩
  · intro b off hp
    have hp' : MemPlace.cell b off ∈ before := by simpa using hp
    rw [hb.frozen (p := ⟨b, off, none⟩) (hlt _ hp')]
    exact hz b off hp'
  · intro h; cases h
  · intro x hx _
    simpa using hx

theorem rkindAt_any (n₀ : Nat → Prop) (sv : Value) (L : List Sl) (at_ : Int) (w : World) (hL : Slots n₀ w sv L) : Calls Tryz.prog 33 #[sv, .int .i64 at_] w fun e w' => e = .returned (.int .u8 (kindM L at_)) ∧ Gr w w' := by
  have hlen := hL.len
  cases e : slotAt L at_ with
  | none =>
    have hn := slotAt_none e
    obtain ⟨p, cap, rfl⟩ := hL.shape
    rw [kindM, e]
    by_cases h0 : at_ < 0
    · have d0 : decide (at_ < 0) = true := by simp; omega
      go_enter Tryz.func33, Tryz.ntmps33
      go_wp2
      go_returns
      exact ⟨rfl, Gr.refl _⟩
    · have d0 : decide (at_ < 0) = false := by simp; omega
      have d1 : decide ((L.length : Int) ≤ at_) = true := by simp; omega
      go_enter Tryz.func33, Tryz.ntmps33
      go_wp2
      go_returns
      exact ⟨rfl, Gr.refl _⟩
  | some x =>
    obtain ⟨h0, h1⟩ := slotAt_some e
    obtain ⟨b, off, cap, rfl, hb, ⟨c0, c1, c2, c3, c4⟩, ⟨⟨o0, o1⟩, ⟨d0, d1⟩, ⟨s0, s1⟩, _⟩, hlt⟩ := hL.get h0 h1
    have g0 : decide (at_ < 0) = false := by simp; omega
    have g1 : decide ((L.length : Int) ≤ at_) = false := by simp; omega
    have k2 := rkind_any x.o x.d x.s x.f x.i o0 o1 d0 d1 s0 s1 w
    rw [kindM, e]
    go_enter Tryz.func33, Tryz.ntmps33
    go_wp2_with first | (go_at_call 24; refine k2.mono ?_; rintro e w' ⟨rfl, hg⟩)
    go_returns
    exact ⟨rfl, hg⟩
theorem rcallee_any (n₀ : Nat → Prop) (sv : Value) (L : List Sl) (at_ : Int) (w : World) (hL : Slots n₀ w sv L) : Calls Tryz.prog 11 #[sv, .int .i64 at_] w fun e w' => e = .returned (calleeV L at_) ∧ Gr w w' := by
  have k1 := rkindAt_any n₀ sv L at_ w hL
  have hlen := hL.len
  unfold calleeV calleeM
  cases e : slotAt L at_ with
  | none =>
    rw [kindM, e] at k1
    dsimp only at k1 ⊢
    go_enter Tryz.func11, Tryz.ntmps11
    go_wp2_with first | (go_at_call 33; refine k1.mono ?_; rintro e w' ⟨rfl, hg⟩)
    go_returns
    exact ⟨rfl, hg⟩
  | some x =>
    rw [kindM, e] at k1
    dsimp only at k1 ⊢
    obtain ⟨h0, h1⟩ := slotAt_some e
    obtain ⟨b, off, cap, rfl, hb, hC, ⟨_, _, ⟨s0, s1⟩, _, ⟨i0, i1⟩⟩, hlt⟩ := hL.here.get h0 h1
    have e1 : IntKind.i64.wrap (at_ + 1) = at_ + 1 := IntWalk.i64_in _ (by omega)
    have e2 : IntKind.i64.wrap (at_ + 2) = at_ + 2 := IntWalk.i64_in _ (by omega)
    have e3 : IntKind.i64.wrap (at_ + 1 + x.i) = at_ + 1 + x.i := IntWalk.i64_in _ (by omega)
    have e4 : IntKind.i64.wrap (at_ + 2 + x.i) = at_ + 2 + x.i := IntWalk.i64_in _ (by omega)
    have e5 : IntKind.i64.wrap x.i = x.i := IntWalk.i64_in _ (by omega)
    have hcel : ∀ W, Gr w W → Cell5 W b (off + at_.toNat * 5) x := fun W h => hC.below hb h.below
    by_cases h7 : x.k = 7
    · rw [h7] at k1
      rw [if_pos h7]
      go_enter Tryz.func11, Tryz.ntmps11
      go_wp2_with first | (go_at_call 33; refine k1.mono ?_; rintro e w' ⟨rfl, hg⟩; obtain ⟨c0, c1, c2, c3, c4⟩ := hcel w' hg)
      go_returns
      exact ⟨rfl, hg⟩
    · have q7 : (x.k == 7) = false := by simpa using h7
      rw [if_neg h7]
      by_cases h9 : x.k = 9
      · rw [h9] at k1 q7
        cases hs2 : (x.s == 2) with
        | true =>
          rw [if_pos ⟨h9, by simpa using hs2⟩]
          go_enter Tryz.func11, Tryz.ntmps11
          go_wp2_with first | (go_at_call 33; refine k1.mono ?_; rintro e w' ⟨rfl, hg⟩; obtain ⟨c0, c1, c2, c3, c4⟩ := hcel w' hg)
          go_returns
          exact ⟨rfl, hg⟩
        | false =>
          rw [if_neg (fun h => by simp [h.2] at hs2)]
          go_enter Tryz.func11, Tryz.ntmps11
          go_wp2_with first | (go_at_call 33; refine k1.mono ?_; rintro e w' ⟨rfl, hg⟩; obtain ⟨c0, c1, c2, c3, c4⟩ := hcel w' hg)
          go_returns
          exact ⟨rfl, hg⟩
      · have q9 : (x.k == 9) = false := by simpa using h9
        rw [if_neg (fun h => h9 h.1)]
        go_enter Tryz.func11, Tryz.ntmps11
        go_wp2_with first | (go_at_call 33; refine k1.mono ?_; rintro e w' ⟨rfl, hg⟩)
        go_returns
        exact ⟨rfl, hg⟩
/-- A row of numbers that lies at v. -/
def NRow (w : World) (v : Value) (xs : List Int) : Prop := (xs = [] ∧ ∃ p c, v = .slice p 0 c) ∨ ∃ g cap, v = .slice (some ⟨g, 0, none⟩) xs.length cap ∧ g < w.heap.size ∧ ∀ (j : Nat) (x : Int), xs[j]? = some x → w.cell? ⟨g, j, none⟩ = some (.int .i64 x)
theorem NRow.gr {w w' : World} {v : Value} {xs : List Int} (h : NRow w v xs) (hb : Below w.heap.size w w') : NRow w' v xs := by
  rcases h with h | ⟨g, cap, e, hg, hc⟩
  · exact .inl h
  · exact .inr ⟨g, cap, e, Nat.lt_of_lt_of_le hg hb.size, fun j x hx => (hb.cell (p := ⟨g, j, none⟩) hg).trans (hc j x hx)⟩
theorem NRow.shape {w : World} {v : Value} {xs : List Int} (h : NRow w v xs) : ∃ p cap, v = .slice p xs.length cap := by
  rcases h with ⟨rfl, p, c, e⟩ | ⟨g, cap, e, _⟩
  · exact ⟨p, c, e⟩
  · exact ⟨_, _, e⟩
theorem NRow.get {w : World} {p : Option Addr} {n c : Nat} {xs : List Int} (h : NRow w (.slice p n c) xs) {i : Nat} {x : Int} (hx : xs[i]? = some x) : ∃ g, p = some ⟨g, 0, none⟩ ∧ w.cell? ⟨g, i, none⟩ = some (.int .i64 x) ∧ g < w.heap.size := by
  rcases h with ⟨e2, _⟩ | ⟨g, cap, e, hlt, hc⟩
  · rw [e2] at hx; simp at hx
  · cases e; exact ⟨g, rfl, hc i x hx, hlt⟩
theorem nrow_own {w w' : World} {v : Value} {xs : List Int} (h : Own w w' v xs) : NRow w' v xs := by
  by_cases hx : xs = []
  · obtain ⟨p, c, e⟩ := own_nil h hx
    exact .inl ⟨hx, p, c, e⟩
  · obtain ⟨g, cap, e, hc⟩ := own_get h hx
    refine .inr ⟨g, cap, e, ?_, hc⟩
    obtain ⟨x, hx0⟩ : ∃ x, xs[0]? = some x := ⟨xs[0]'(List.length_pos_iff.2 hx), List.getElem?_eq_getElem _⟩
    have := hc 0 x hx0
    unfold World.cell? at this
    split at this
    · rename_i hh; exact (Array.getElem?_eq_some_iff.1 hh).1
    · cases this

section
variable {L : List Sl} (hp : Passed L 8)
include hp
theorem may_led (u : Nat) (hu : isBeg L u) : Rch (leadsN L) ((slM L).map (·.1)) u ∨ u = (subOf (slM L) (hlM L) u).1 := by
  classical
  have h6 : (leastX (begM L) (fun x => missC L x.toNat) 84).2 = 0 := hp 6 (by decide)
  have hl := least_zero (by decide) h6 _ (beg_mem hp u hu)
  rw [Int.toNat_natCast] at hl
  by_cases h1 : Rch (leadsN L) ((slM L).map (·.1)) u
  · exact .inl h1
  · by_cases h2 : u = (subOf (slM L) (hlM L) u).1
    · exact .inr h2
    · rw [missC_true h1 h2] at hl; cases hl
theorem may_same (j k xj yj x y u : Nat) (hj : (slM L)[j]? = some (xj, yj)) (hk : (slM L)[k]? = some (x, y)) (h1 : xj ≤ u) (h2 : u < yj) (h3 : x ≤ u) (h4 : u < y) : j = k := by
  have e1 := may_home hp j _ _ hj u h1 h2
  have e2 := may_home hp k _ _ hk u h3 h4
  rw [e1] at e2; cases e2; rfl
theorem leadsN_in (k x y u : Nat) (h : (slM L)[k]? = some (x, y)) (h1 : x ≤ u) (h2 : u < y) (hu : isBeg L u) : ∀ t ∈ leadsN L u, x ≤ t ∧ t < y ∧ isBeg L t := by
  intro t ht
  obtain ⟨z, hz, rfl⟩ := List.mem_map.1 ht
  obtain ⟨_, a, b, c⟩ := may_leads hp k x y h u h1 h2 hu z hz
  exact ⟨a, b, c⟩
/-- What holds the beginning, and what its instructions lead to, holds all of them. -/
theorem may_covers (k x y : Nat) (h : (slM L)[k]? = some (x, y)) (S : Nat → Prop) (hx : S x) (hcl : ∀ u, S u → isBeg L u → x ≤ u → u < y → ∀ t ∈ leadsN L u, S t) (u : Nat) (hu : isBeg L u) (h1 : x ≤ u) (h2 : u < y) : S u := by
  have key : ∀ v, Rch (leadsN L) ((slM L).map (·.1)) v → isBeg L v ∧ ∃ j xj yj, (slM L)[j]? = some (xj, yj) ∧ xj ≤ v ∧ v < yj ∧ (j = k → S v) := by
    intro v hv
    induction hv with
    | one a b ha hb =>
      obtain ⟨z, hz, rfl⟩ := List.mem_map.1 ha
      obtain ⟨j, hj, e⟩ := List.getElem_of_mem hz
      obtain ⟨xj, yj, g1, _, _, g4, g5⟩ := may_get hp j hj
      have hz1 : (slM L)[j]? = some z := by rw [List.getElem?_eq_getElem hj, e]
      rw [hz1] at g1; cases g1
      have hbg := may_beg hp j _ _ hz1
      obtain ⟨p1, p2, p3⟩ := leadsN_in hp j _ _ _ hz1 (Nat.le_refl _) g4 hbg b hb
      refine ⟨p3, j, _, _, hz1, p1, p2, fun e => ?_⟩
      subst e
      rw [h] at hz1; cases hz1
      exact hcl _ hx hbg (Nat.le_refl _) g4 b hb
    | more a b ha hb ih =>
      obtain ⟨hbg, j, xj, yj, hj, q1, q2, q3⟩ := ih
      obtain ⟨p1, p2, p3⟩ := leadsN_in hp j _ _ _ hj q1 q2 hbg b hb
      refine ⟨p3, j, _, _, hj, p1, p2, fun e => ?_⟩
      have hs := q3 e
      subst e
      rw [h] at hj; cases hj
      exact hcl a hs hbg q1 q2 b hb
  rcases may_led hp u hu with hr | he
  · obtain ⟨_, j, xj, yj, hj, q1, q2, q3⟩ := key u hr
    exact q3 (may_same hp j k xj yj x y u hj h q1 q2 h1 h2)
  · rw [subOf, may_home hp k x y h u h1 h2, Option.getD_some, h, Option.getD_some] at he
    rw [he]; exact hx
end
/-- How many of a row of places are on. -/
def onN (S : List Bool) (x y : Nat) : Nat := ((List.range' x (y - x)).filter fun j => S[j]?.getD false).length
theorem onN_le (S : List Bool) (x y : Nat) : onN S x y ≤ y - x := by
  refine Nat.le_trans (List.length_filter_le _ _) ?_
  rw [List.length_range']; exact Nat.le_refl _
theorem filter_more {α : Type} (l : List α) (p q : α → Bool) (h : ∀ a ∈ l, p a = true → q a = true) : (l.filter p).length ≤ (l.filter q).length := by
  induction l with
  | nil => exact Nat.le_refl _
  | cons a l ih =>
    have := ih fun b hb => h b (by simp [hb])
    have ha := h a (by simp)
    cases hp : p a <;> cases hq : q a <;> simp [List.filter_cons, hp, hq] <;> first | omega | (rw [ha hp] at hq; cases hq)
theorem filter_grow {α : Type} (l : List α) (p q : α → Bool) (h : ∀ a ∈ l, p a = true → q a = true) (t : α) (ht : t ∈ l) (h1 : p t = false) (h2 : q t = true) : (l.filter p).length + 1 ≤ (l.filter q).length := by
  induction l with
  | nil => cases ht
  | cons a l ih =>
    have hm := filter_more l p q fun b hb => h b (by simp [hb])
    have ha := h a (by simp)
    rcases List.mem_cons.1 ht with rfl | ht
    · simp [List.filter_cons, h1, h2]; omega
    · have := ih (fun b hb => h b (by simp [hb])) ht
      cases hp : p a <;> cases hq : q a <;> simp [List.filter_cons, hp, hq] <;> first | omega | (rw [ha hp] at hq; cases hq)
theorem onN_grow {S T : List Bool} {x y t : Nat} (h : ∀ j : Nat, S[j]?.getD false = true → T[j]?.getD false = true) (h1 : x ≤ t) (h2 : t < y) (h3 : S[t]?.getD false = false) (h4 : T[t]?.getD false = true) : onN S x y + 1 ≤ onN T x y := by
  refine filter_grow _ _ _ (fun j _ => h j) t ?_ h3 h4
  rw [List.mem_range']
  exact ⟨t - x, by omega, by omega⟩
theorem onN_more {S T : List Bool} {x y : Nat} (h : ∀ j : Nat, S[j]?.getD false = true → T[j]?.getD false = true) : onN S x y ≤ onN T x y := filter_more _ _ _ fun j _ => h j
/-- A slot that is no beginning is the second one of a wide instruction. -/
theorem walkF_cover (L : List Sl) : ∀ (f k : Nat) (Bg : List Bool), Bg.length = L.length → (∀ j : Nat, j < k → Bg[j]?.getD false = true ∨ (0 < j ∧ Bg[j - 1]?.getD false = true ∧ kindM L ((j - 1 : Nat) : Int) = 9)) → ∀ j : Nat, j < (walkF L f k Bg).1 → j < L.length → (walkF L f k Bg).2[j]?.getD false = true ∨ (0 < j ∧ (walkF L f k Bg).2[j - 1]?.getD false = true ∧ kindM L ((j - 1 : Nat) : Int) = 9)
  | 0, k, Bg, hl, h, j, hj, _ => h j hj
  | f + 1, k, Bg, hl, h, j, hj, hjl => by
    have on : ∀ i : Nat, Bg[i]?.getD false = true → (Bg.set k true)[i]?.getD false = true := fun i hi => by
      by_cases e : i = k
      · subst e
        have := (List.getElem?_eq_some_iff.1 (show Bg[i]? = some true by cases h' : Bg[i]? with | none => rw [h'] at hi; cases hi | some b => rw [h'] at hi; simpa using hi)).1
        simp [List.getElem?_set, this]
      · rw [List.getElem?_set_ne (fun e' => e e'.symm)]; exact hi
    rw [walkF] at hj ⊢
    split at hj
    · rename_i hkl
      have hkon : (Bg.set k true)[k]?.getD false = true := by simp [List.getElem?_set, hl, hkl]
      simp only [if_pos hkl] at hj ⊢
      split at hj
      · rename_i h0; simp only [if_pos h0]; exact h j hj
      · rename_i h0
        simp only [if_neg h0] at hj ⊢
        split at hj
        · rename_i h9
          simp only [if_pos h9] at hj ⊢
          split at hj
          · rename_i hs
            simp only [if_pos hs]
            refine walkF_cover L f (k + 2) _ (by simp [hl]) (fun i hi => ?_) j hj hjl
            by_cases e1 : i = k
            · subst e1; exact .inl hkon
            · by_cases e2 : i = k + 1
              · subst e2; exact .inr ⟨by omega, by simpa using hkon, by simpa using h9⟩
              · rcases h i (by omega) with q | ⟨q1, q2, q3⟩
                · exact .inl (on i q)
                · exact .inr ⟨q1, on _ q2, q3⟩
          · rename_i hs; simp only [if_neg hs]; exact h j hj
        · rename_i h9
          simp only [if_neg h9] at hj ⊢
          refine walkF_cover L f (k + 1) _ (by simp [hl]) (fun i hi => ?_) j hj hjl
          by_cases e1 : i = k
          · subst e1; exact .inl hkon
          · rcases h i (by omega) with q | ⟨q1, q2, q3⟩
            · exact .inl (on i q)
            · exact .inr ⟨q1, on _ q2, q3⟩
    · rename_i hkl; simp only [if_neg hkl] at hj ⊢; exact h j hj
theorem may_half {L : List Sl} (hp : Passed L 8) (k x y : Nat) (h : (slM L)[k]? = some (x, y)) (j : Nat) (h1 : x ≤ j) (h2 : j < y) (hn : ¬ isBeg L j) : 0 < j ∧ x ≤ j - 1 ∧ isBeg L (j - 1) ∧ kindM L ((j - 1 : Nat) : Int) = 9 := by
  obtain ⟨a, b, g1, g2, g3, g4, g5⟩ := may_get hp k (List.getElem?_eq_some_iff.1 h).1
  rw [h] at g1; cases g1
  have hjl : j < L.length := by omega
  have hw := pass2 hp (by decide : 3 ≤ 8)
  have hc := walkF_cover L (L.length + 1) 0 (List.replicate L.length false) (by simp) (fun j hj => by omega) j (Nat.lt_of_lt_of_le hjl hw) hjl
  have hb := may_beg hp k x y h
  have hne : j ≠ x := fun e => hn (e ▸ hb)
  rcases hc with q | ⟨q1, q2, q3⟩
  · exact absurd ⟨hjl, q⟩ hn
  · exact ⟨q1, by omega, ⟨by omega, q2⟩, q3⟩

/-- A place of a row that is on. -/
abbrev onB (S : List Bool) (j : Nat) : Prop := S[j]?.getD false = true
/-- Whatever is seen is an instruction of the subprogram from x to y, its beginning among them. -/
structure Seen (L : List Sl) (x y : Nat) (S : List Bool) : Prop where
  len : S.length = L.length + 1
  sound : ∀ j, onB S j → x ≤ j ∧ j < y ∧ isBeg L j
  has : onB S x
def Closed (L : List Sl) (S : List Bool) : Prop := ∀ u, onB S u → ∀ t ∈ nextM L u, onB S t.toNat
theorem onB_set {S : List Bool} {k j : Nat} (hk : k < S.length) : onB (S.set k true) j ↔ j = k ∨ onB S j := by
  unfold onB
  by_cases e : k = j
  · subst e; simp [List.getElem?_set, hk]
  · rw [List.getElem?_set_ne e]
    exact ⟨.inr, fun h => h.resolve_left fun e' => e e'.symm⟩
theorem set_same {S : List Bool} {k : Nat} (h : onB S k) : S.set k true = S := by
  refine List.ext_getElem? fun j => ?_
  by_cases e : k = j
  · subst e
    unfold onB at h
    cases h' : S[k]? with
    | none => rw [h'] at h; cases h
    | some b =>
      rw [h'] at h
      have hl := (List.getElem?_eq_some_iff.1 h').1
      simp [List.getElem?_set, hl]
      simpa using h.symm
  · rw [List.getElem?_set_ne e]
section
variable {L : List Sl} (hp : Passed L 8) {k x y : Nat} (hk : (slM L)[k]? = some (x, y))
include hp hk
theorem sub_le : x < y ∧ y ≤ L.length := by
  obtain ⟨a, b, g1, g2, g3, g4, g5⟩ := may_get hp k (List.getElem?_eq_some_iff.1 hk).1
  rw [hk] at g1; cases g1
  exact ⟨g4, g5⟩
theorem seen_first : Seen L x y ((List.replicate (L.length + 1) false).set x true) := by
  obtain ⟨h1, h2⟩ := sub_le hp hk
  have hl : x < (List.replicate (L.length + 1) false).length := by simp; omega
  refine ⟨by simp, fun j hj => ?_, (onB_set hl).2 (.inl rfl)⟩
  rcases (onB_set hl).1 hj with rfl | hj
  · exact ⟨Nat.le_refl _, h1, may_beg hp k _ _ hk⟩
  · unfold onB at hj
    by_cases h : j < L.length + 1 <;> simp [List.getElem?_replicate, h] at hj
theorem next_in {S : List Bool} (hS : Seen L x y S) {u : Nat} (hu : onB S u) {t : Int} (ht : t ∈ nextM L u) : 0 ≤ t ∧ x ≤ t.toNat ∧ t.toNat < y ∧ isBeg L t.toNat := by
  obtain ⟨h1, h2, h3⟩ := hS.sound u hu
  exact may_leads hp k x y hk u h1 h2 h3 t (next_mem.1 ht)
theorem seen_set {S : List Bool} (hS : Seen L x y S) {u : Nat} (hu : onB S u) {t : Int} (ht : t ∈ nextM L u) : Seen L x y (S.set t.toNat true) ∧ ∀ j, onB S j → onB (S.set t.toNat true) j := by
  obtain ⟨_, h1, h2, h3⟩ := next_in hp hk hS hu ht
  obtain ⟨_, h5⟩ := sub_le hp hk
  have hl : t.toNat < S.length := by rw [hS.len]; omega
  refine ⟨⟨by simp [hS.len], fun j hj => ?_, (onB_set hl).2 (.inr hS.has)⟩, fun j hj => (onB_set hl).2 (.inr hj)⟩
  rcases (onB_set hl).1 hj with rfl | hj
  · exact ⟨h1, h2, h3⟩
  · exact hS.sound j hj
theorem closed_set {S : List Bool} (hc : Closed L S) {u : Nat} (hu : onB S u) {t : Int} (ht : t ∈ nextM L u) : S.set t.toNat true = S := set_same (hc u hu t ht)
/-- Behind a pass: closed, or one more is seen. -/
theorem pass_end {S0 S : List Bool} {i : Nat} (h0 : Seen L x y S0) (hS : Seen L x y S) (hsub : ∀ j, onB S0 j → onB S j) (hall : ∀ u, onB S0 u → ∀ t ∈ nextM L u, onB S t.toNat) (hcl : Closed L S0 → S = S0) (hi : Closed L S0 ∨ i + 1 ≤ onN S0 x y) : Closed L S ∨ i + 2 ≤ onN S x y := by
  classical
  by_cases hc : Closed L S0
  · exact .inl (by rw [hcl hc]; exact hc)
  · have hn : i + 1 ≤ onN S0 x y := hi.resolve_left hc
    obtain ⟨u, hu, t, ht, hno⟩ : ∃ u, onB S0 u ∧ ∃ t ∈ nextM L u, ¬ onB S0 t.toNat := by
      refine Classical.byContradiction fun hne => hc fun u hu t ht => Classical.byContradiction fun h => hne ⟨u, hu, t, ht, h⟩
    obtain ⟨_, a, b, _⟩ := next_in hp hk h0 hu ht
    have hg := onN_grow hsub a b (by simpa [onB] using hno) (hall u hu t ht)
    exact .inr (by omega)
theorem pass_over {S : List Bool} (h : Closed L S ∨ y - x + 2 ≤ onN S x y) : Closed L S := by
  rcases h with h | h
  · exact h
  · have := onN_le S x y; omega
theorem first_count : 1 ≤ onN ((List.replicate (L.length + 1) false).set x true) x y := by
  obtain ⟨h1, h2⟩ := sub_le hp hk
  have hs := seen_first hp hk
  have hg := onN_grow (S := List.replicate (L.length + 1) false) (T := (List.replicate (L.length + 1) false).set x true) (x := x) (y := y) (t := x) (fun j hj => by
    by_cases h : j < L.length + 1 <;> simp [List.getElem?_replicate, h] at hj) (Nat.le_refl _) h1 (by rw [List.getElem?_replicate]; split <;> rfl) hs.has
  omega
/-- Once it is closed all instructions are seen, and nothing else. -/
theorem seen_all {S : List Bool} (hS : Seen L x y S) (hc : Closed L S) (u : Nat) (h1 : x ≤ u) (h2 : u < y) : onB S u ↔ isBeg L u := by
  refine ⟨fun h => (hS.sound u h).2.2, fun hu => ?_⟩
  refine may_covers hp k x y hk (fun j => onB S j) hS.has (fun v hv _ _ _ t ht => ?_) u hu h1 h2
  obtain ⟨z, hz, rfl⟩ := List.mem_map.1 ht
  exact hc v hv z (next_mem.2 hz)
theorem half_seen {S : List Bool} (hS : Seen L x y S) (hc : Closed L S) (u : Nat) (h1 : x ≤ u) (h2 : u < y) (hn : ¬ onB S u) : 0 < u ∧ onB S (u - 1) ∧ kindM L ((u - 1 : Nat) : Int) = 9 := by
  obtain ⟨a, b, c, d⟩ := may_half hp k x y hk u h1 h2 fun h => hn ((seen_all hp hk hS hc u h1 h2).2 h)
  exact ⟨a, (seen_all hp hk hS hc (u - 1) b (by omega)).2 c, d⟩
end
/-- Where the k-th subprogram begins; behind the last one: the end. -/
def endAt (L : List Sl) (k : Nat) : Nat := match (slM L)[k]? with
  | some z => z.1
  | none => L.length
theorem endAt_zero {L : List Sl} (hp : Passed L 8) : endAt L 0 = 0 := by
  obtain ⟨y, hy⟩ := may_zero hp
  rw [endAt, hy]
theorem endAt_next {L : List Sl} (hp : Passed L 8) {k x y : Nat} (h : (slM L)[k]? = some (x, y)) : endAt L (k + 1) = y := by
  unfold endAt
  cases h' : (slM L)[k + 1]? with
  | none =>
    have := may_last hp k x y h (by rw [List.getElem?_eq_none_iff] at h'; have := (List.getElem?_eq_some_iff.1 h).1; omega)
    simp [this]
  | some z => exact (may_next hp k x y z.1 z.2 h h').symm

theorem nextM_len2 (L : List Sl) (at_ : Int) : (nextM L at_).length ≤ 2 := by
  have h := leadsM_len L at_
  unfold nextM Lib.compact Lib.compactUpTo
  rw [List.length_map]
  refine Nat.le_trans (List.length_filter_le _ _) ?_
  rw [List.length_range, List.length_mergeSort]; exact h
theorem nrow_other {w : World} {p : Option Addr} {n c g o : Nat} {xs : List Int} (h : NRow w (.slice p n c) xs) (hne : ∀ g7, p = some ⟨g7, 0, none⟩ → g7 ≠ g) (u : Value) : NRow (w.setCell ⟨g, o, none⟩ u) (.slice p n c) xs := by
  rcases h with h | ⟨g7, cap, e, hg, hc⟩
  · exact .inl h
  · cases e
    have hh := Below.heap_setCell w ⟨g, o, none⟩ u g7 (hne g7 rfl)
    exact .inr ⟨g7, _, rfl, by simpa [World.setCell] using hg, fun j x hx => (World.cell?_of_block hh).trans (hc j x hx)⟩
theorem subs_other {w : World} {sb g : Nat} {vs : Value} {SL : List (Nat × Nat)} (h : SubsAt w sb vs SL) (hne : sb ≠ g) (u : Value) (o : Nat) : SubsAt (w.setCell ⟨g, o, none⟩ u) sb vs SL := by
  have hh := Below.heap_setCell w ⟨g, o, none⟩ u sb hne
  refine ⟨h.val, by have := h.lt; simpa [World.setCell] using this, h.len, h.small, fun j x hx => ?_⟩
  obtain ⟨q0, q1⟩ := h.cell j x hx
  exact ⟨(World.cell?_of_block hh).trans q0, (World.cell?_of_block hh).trans q1⟩
set_option maxHeartbeats 8000000 in
theorem covers_any (sv : Value) (L : List Sl) (h200 : L.length ≤ 200) (w : World) (hL : Slots AnyB w sv L) : Calls Tryz.prog 6 #[sv] w fun e w' => e = .returned (.bool true) ∧ Below w.heap.size w w' := by
  obtain ⟨p, c, rfl⟩ := hL.shape
  have hal := fun W => alive_any W
  have d1 : decide ((200 : Int) < L.length) = false := by simp; omega
  have kc := check_any _ L w hL
  by_cases hz : (chkM L).2 = 0
  · have hp := chk_passed hz
    have hq : (((chkM L).2 : Int) != 0) = false := by simp [hz]
    have hpos := may_pos hp
    have hne : slM L ≠ [] := List.length_pos_iff.1 hpos
    have hall : ∀ x ∈ slM L, x.1 < x.2 ∧ x.2 ≤ L.length := fun x hx => by
      obtain ⟨k, hk, e⟩ := List.getElem_of_mem hx
      obtain ⟨a, b, g1, g2, g3, g4, g5⟩ := may_get hp k hk
      rw [List.getElem?_eq_getElem hk, e] at g1
      cases g1
      exact ⟨g4, g5⟩
    have kw := fun W sb v (hS : SubsAt W sb v (slM L)) => whole_ok sb v (slM L) L.length hne hall W hS
    have hlS : (slM L).length ≤ 4096 := by rw [may_len hp]; have := (pass_heads hp (by decide)).len; omega
    have hend0 := endAt_zero hp
    have kbg := fun (t : Nat) (j y : Nat) (h : (slM L)[j]? = some (t, y)) sb v W (hS : SubsAt W sb v (slM L)) => begins_ok sb v (slM L) t j y h W hS
    generalize hSL : slM L = SL at kc kw hpos hlS kbg
    replace hSL : Hid (slM L = SL) := hSL
    obtain ⟨i0, hi, hz0, hzs1, hz2⟩ := info_parts info4
    go_enter Tryz.func6, Tryz.ntmps6
    go_upto_region 8 with first | (go_at_call 20; refine kc.mono ?_; rintro e w1 ⟨v, rfl, h1, _, hb1⟩; obtain ⟨sb, hsb, hS⟩ := h1 hz; obtain ⟨cs, rfl⟩ := hS.val) | (go_at_call 23; refine (kw _ _ _ hS).mono ?_; rintro e w2 ⟨rfl, hb2⟩; have hS2 := hS.gr hb2; have hb12 := hb1.trans (hb2.mono hb1.size))
    go_wp2_with fail
    go_loopw [6, 7] (fun e kk wr => ∃ k : Nat, e = .int .i64 (endAt L k : Nat) ∧ kk = .int .i64 k ∧ k ≤ SL.length ∧ SubsAt wr sb (.slice (some ⟨sb, 0, none⟩) SL.length cs) SL ∧ Below w.heap.size w wr) (fun _ kk _ => SL.length - (intOf kk).toNat)
    case atStart => exact ⟨0, by rw [hend0]; rfl, rfl, by omega, hS2, hb12⟩
    case round =>
      obtain ⟨k, rfl, rfl, hk, hSr, hbr⟩ := hrel
      by_cases hlt : k < SL.length
      · have dk : decide ((k : Int) < SL.length) = true := by simp; omega
        obtain ⟨z, hz1⟩ : ∃ z, SL[k]? = some z := ⟨SL[k], by simp [hlt]⟩
        obtain ⟨x, y⟩ := z
        have hkk : (slM L)[k]? = some (x, y) := by rw [hSL.out]; exact hz1
        obtain ⟨hxy, hyl⟩ := sub_le hp hkk
        have hen : endAt L k = x := by rw [endAt, hkk]
        have hen1 : Hid (endAt L (k + 1) = y) := endAt_next hp hkk
        rw [hen]
        clear hen
        obtain ⟨c0, c1⟩ := hSr.cell k (x, y) hz1
        dsimp only at c0 c1
        have dk2 : decide ((0 : Int) ≤ (k : Int) ∧ (k : Int) < (SL.length : Int)) = true := by simp; omega
        have dy : decide ((y : Int) ≤ x) = false := by simp; omega
        have dy2 : decide (y ≤ x) = false := by simp; omega
        have e1 : IntKind.i64.wrap ((L.length : Int) + 1) = ((L.length + 1 : Nat) : Int) := by rw [IntWalk.i64_in _ (by omega)]; omega
        have ek : IntKind.i64.wrap ((k : Int) + 1) = (k : Int) + 1 := IntWalk.i64_in _ (by omega)
        have hz1' : Hid (SL[k]? = some (x, y)) := hz1
        clear hz1
        go_upto_region 16 with first | (refine wpList_make_full _ rfl _ _ 55 rfl wr.heap.size 4 i0 (.bool false) 1 Tryz.underlying55 hi hz0 hzs1 _ _ _ _ (L.length + 1) rfl rfl rfl rfl (by rw [hz2]; omega) (by simp [maxLen]; omega) (Nat.le_refl _) ?_; intro w4 hown hgrow; have hb4 := (Below.refl wr.heap.size wr).grown hgrow (Nat.le_refl _) (fun k e => by cases e); skip)
        have hB4 : Bools w4 wr.heap.size (.slice (some ⟨wr.heap.size, 0, none⟩) (L.length + 1) (L.length + 1)) (List.replicate (L.length + 1) false) := by
          rcases hown.2 with ⟨e, _⟩ | ⟨g, cap, cur, e, _, hg, _, _, hs, ht⟩
          · cases e
          · cases e
            refine ⟨⟨L.length + 1, by simp⟩, hg.trans ?_⟩
            rw [made_list, Nat.mul_one, List.take_of_length_le (by simp [hs])] at ht
            rw [← ht]
        have hS4 := hSr.gr hb4
        have hbw4 := hbr.trans (hb4.mono hbr.size)
        have hsg : sb ≠ wr.heap.size := by have := hSr.lt; omega
        have hwg : w.heap.size ≤ wr.heap.size := hbr.size
        have hn4 := hB4.set x true
        have hS5 : SubsAt (w4.setCell ⟨wr.heap.size, x, none⟩ (.bool true)) sb (.slice (some ⟨sb, 0, none⟩) SL.length cs) SL := subs_other hS4 hsg _ _
        have hbw5 : Below w.heap.size w (w4.setCell ⟨wr.heap.size, x, none⟩ (.bool true)) := hbw4.setCell hwg _
        obtain ⟨c0, c1⟩ := hS4.cell k (x, y) hz1'.out
        dsimp only at c0 c1
        have fx := hB4.fro x
        have cx := hB4.cell x (by simp; omega)
        have dx : decide ((0 : Int) ≤ (x : Int) ∧ (x : Int) < ((L.length + 1 : Nat) : Int)) = true := by simp; omega
        have hsn := seen_first hp hkk
        have hct : Closed L ((List.replicate (L.length + 1) false).set x true) ∨ 0 + 1 ≤ onN ((List.replicate (L.length + 1) false).set x true) x y := .inr (first_count hp hkk)
        go_upto_region 17 with fail
        generalize (w4.setCell ⟨wr.heap.size, x, none⟩ (.bool true)) = W5 at hn4 hS5 hbw5 ⊢
        generalize (List.replicate (L.length + 1) false).set x true = S1 at hn4 hsn hct
        clear hB4 hS4 hbw4 hb4 hown hgrow c0 c1 fx cx hSr hbr
        generalize wr.heap.size = g at hn4 hsg hwg ⊢
        go_wp2_with fail
        have ew : IntKind.i64.wrap ((y : Int) - x) = ((y - x : Nat) : Int) := by rw [IntWalk.i64_in _ (by omega)]; omega
        go_loopw [9] (fun i wr => ∃ (n : Nat) (S : List Bool), i = .int .i64 n ∧ n ≤ y - x + 1 ∧ Bools wr g (.slice (some ⟨g, 0, none⟩) (L.length + 1) (L.length + 1)) S ∧ Seen L x y S ∧ (Closed L S ∨ n + 1 ≤ onN S x y) ∧ SubsAt wr sb (.slice (some ⟨sb, 0, none⟩) SL.length cs) SL ∧ Below w.heap.size w wr) (fun i _ => y - x + 1 - (intOf i).toNat)
        case atStart => exact ⟨0, S1, rfl, by omega, hn4, hsn, hct, hS5, hbw5⟩
        case round =>
          clear hn4 hsn hct hS5 hbw5
          obtain ⟨n, S, rfl, hn, hB, hSn, hcl, hSs, hbs⟩ := hrel
          obtain ⟨c0, c1⟩ := hSs.cell k (x, y) hz1'.out
          dsimp only at c0 c1
          by_cases hlt2 : n ≤ y - x
          · have dn : decide ((n : Int) ≤ ((y - x : Nat) : Int)) = true := by simp; omega
            have dn2 : decide (n ≤ y - x) = true := by simp; omega
            have en : IntKind.i64.wrap ((n : Int) + 1) = (n : Int) + 1 := IntWalk.i64_in _ (by omega)
            go_upto_region 18 with fail
            go_quiet (fail)
            have hB6 : Bools (wr.drewN nq) g (.slice (some ⟨g, 0, none⟩) (L.length + 1) (L.length + 1)) S := ⟨hB.val, hB.blk⟩
            have hS6 : SubsAt (wr.drewN nq) sb (.slice (some ⟨sb, 0, none⟩) SL.length cs) SL := ⟨hSs.val, hSs.lt, hSs.len, hSs.small, hSs.cell⟩
            have hb6 : Below w.heap.size w (wr.drewN nq) := ⟨hbs.os, hbs.tape, hbs.output, hbs.size, hbs.block⟩
            clear hB hSs hbs c0 c1
            generalize wr.drewN nq = W6 at hB6 hS6 hb6 ⊢
            obtain ⟨c0, c1⟩ := hS6.cell k (x, y) hz1'.out
            dsimp only at c0 c1
            go_wp2_with fail
            clear c0 c1
            go_loopw [10] (fun a wr => ∃ (at_ : Nat) (S' : List Bool), a = .int .i64 at_ ∧ x ≤ at_ ∧ at_ ≤ y ∧ Bools wr g (.slice (some ⟨g, 0, none⟩) (L.length + 1) (L.length + 1)) S' ∧ Seen L x y S' ∧ (∀ j, onB S j → onB S' j) ∧ (∀ u, onB S u → u < at_ → ∀ t ∈ nextM L u, onB S' t.toNat) ∧ (Closed L S → S' = S) ∧ SubsAt wr sb (.slice (some ⟨sb, 0, none⟩) SL.length cs) SL ∧ Below w.heap.size w wr) (fun a _ => y - (intOf a).toNat)
            case atStart => exact ⟨x, S, rfl, Nat.le_refl _, by omega, hB6, hSn, fun _ h => h, fun u hu h => by have := (hSn.sound u hu).1; omega, fun _ => rfl, hS6, hb6⟩
            case round =>
              clear hB6 hS6 hb6
              obtain ⟨at_, S', rfl, hxa, hay, hB, hSn', hsub, hpre, hsame, hSs, hbs⟩ := hrel
              obtain ⟨c0, c1⟩ := hSs.cell k (x, y) hz1'.out
              dsimp only at c0 c1
              by_cases hlt3 : at_ < y
              · have da : decide ((at_ : Int) < y) = true := by simp; omega
                have da2 : decide (at_ < y) = true := by simp; omega
                have ea : IntKind.i64.wrap ((at_ : Int) + 1) = (at_ : Int) + 1 := IntWalk.i64_in _ (by omega)
                have kn := next_any AnyB _ L at_ wr (hL.gr hbs)
                have hxl := nextM_len2 L at_
                obtain ⟨xs, hxs⟩ : ∃ xs, nextM L at_ = xs := ⟨_, rfl⟩
                rw [hxs] at kn hxl
                replace hxs : Hid (nextM L at_ = xs) := hxs
                go_wp2_with first | (go_at_call 18; refine kn.mono ?_; rintro e w7 ⟨v7, rfl, how⟩; have hN := nrow_own how; have hB7 := hB.gr how.2; have hS7 := hSs.gr how.2; have hb7 := hbs.trans (how.2.mono hbs.size); obtain ⟨p7, c7, rfl⟩ := hN.shape)
                have hgN : ∀ g7, p7 = some ⟨g7, 0, none⟩ → g7 ≠ g := fun g7 e7 => by
                  subst e7
                  rcases how.1.2 with ⟨e, _⟩ | ⟨g', cap', cur', e, hb', _⟩
                  · cases e
                  · cases e; have := hB.lt; omega
                clear c0 c1 hB hSs hbs how
                go_loopw [12] (fun jj wr => ∃ (j : Nat) (S2 : List Bool), jj = .int .i64 j ∧ j ≤ xs.length ∧ Bools wr g (.slice (some ⟨g, 0, none⟩) (L.length + 1) (L.length + 1)) S2 ∧ Seen L x y S2 ∧ (∀ i, onB S i → onB S2 i) ∧ (∀ u, onB S u → u < at_ → ∀ t ∈ nextM L u, onB S2 t.toNat) ∧ (j = 0 ∨ onB S2 at_) ∧ (∀ t ∈ xs.take j, onB S2 t.toNat) ∧ (Closed L S → S2 = S) ∧ NRow wr (.slice p7 xs.length c7) xs ∧ SubsAt wr sb (.slice (some ⟨sb, 0, none⟩) SL.length cs) SL ∧ Below w.heap.size w wr) (fun jj _ => xs.length - (intOf jj).toNat)
                case atStart => exact ⟨0, S', rfl, by omega, hB7, hSn', hsub, hpre, .inl rfl, by simp, hsame, hN, hS7, hb7⟩
                case round =>
                  clear hB7 hN hS7 hb7
                  obtain ⟨j, S2, rfl, hj, hB2, hSn2, hsub2, hpre2, hor, htk, hsame2, hN2, hSs2, hbs2⟩ := hrel
                  have cat := hB2.cell at_ (by rw [hSn2.len]; omega)
                  have dat : decide ((0 : Int) ≤ (at_ : Int) ∧ (at_ : Int) < ((L.length + 1 : Nat) : Int)) = true := by simp; omega
                  have ej : IntKind.i64.wrap ((j : Int) + 1) = (j : Int) + 1 := IntWalk.i64_in _ (by omega)
                  cases hon : S2[at_]?.getD false with
                  | true =>
                    rw [hon] at cat
                    by_cases hj4 : j < xs.length
                    · obtain ⟨t, ht⟩ : ∃ t, xs[j]? = some t := ⟨xs[j], by simp [hj4]⟩
                      have htm : t ∈ nextM L at_ := by rw [hxs.out]; exact List.mem_of_getElem? ht
                      obtain ⟨t0, t1, t2, t3⟩ := next_in hp hkk hSn2 hon htm
                      obtain ⟨g7, hg7, ct, hg7l⟩ := hN2.get ht
                      have hne7 := hgN g7 hg7
                      obtain ⟨hSn3, hmore⟩ := seen_set hp hkk hSn2 hon htm
                      have hl2 : t.toNat < S2.length := by rw [hSn2.len]; omega
                      have hcl3 : Closed L S → S2.set t.toNat true = S := fun h => by
                        have e := hsame2 h
                        rw [← e] at h
                        rw [closed_set hp hkk h hon htm]; exact e
                      have htk3 : ∀ z ∈ xs.take (j + 1), onB (S2.set t.toNat true) z.toNat := fun z hz => by
                        have hl := List.getElem?_eq_some_iff.1 ht
                        rw [List.take_succ_eq_append_getElem hl.1, hl.2] at hz
                        rcases List.mem_append.1 hz with hz | hz
                        · exact hmore _ (htk z hz)
                        · rw [List.mem_singleton.1 hz]; exact (onB_set hl2).2 (.inl rfl)
                      have dj : decide ((j : Int) < xs.length) = true := by simp; omega
                      have dj2 : decide (j < xs.length) = true := by simp; omega
                      have dj3 : decide ((0 : Int) ≤ (j : Int) ∧ (j : Int) < (xs.length : Int)) = true := by simp; omega
                      have dt0 : decide (t < 0) = false := by simp; omega
                      have dtl : decide ((L.length : Int) ≤ t) = false := by simp; omega
                      have dt3 : decide ((0 : Int) ≤ t ∧ t < ((L.length + 1 : Nat) : Int)) = true := by simp; omega
                      have fz := hB2.fro t.toNat
                      have cz := hB2.cell t.toNat hl2
                      have hN3 := nrow_other (o := t.toNat) hN2 hgN (.bool true)
                      have hS3 := subs_other hSs2 hsg (.bool true) t.toNat
                      have hB3 := hB2.set t.toNat true
                      have hb3 := hbs2.setCell (p := ⟨g, t.toNat, none⟩) hwg (.bool true)
                      have hor3 := hmore _ hon
                      replace htm : True := trivial
                      replace ht : True := trivial
                      subst hg7
                      go_wp2_with fail
                      exact ⟨⟨j + 1, S2.set t.toNat true, by simp, by omega, hB3, hSn3, fun i h => hmore i (hsub2 i h), fun u hu h z hz => hmore _ (hpre2 u hu h z hz), .inr hor3, htk3, hcl3, hN3, hS3, hb3⟩, by simp [intOf]; omega⟩
                    · have dj : decide ((j : Int) < xs.length) = false := by simp; omega
                      have dj2 : decide (j < xs.length) = false := by simp; omega
                      have hall2 : ∀ u, onB S u → u < at_ + 1 → ∀ z ∈ nextM L u, onB S2 z.toNat := fun u hu h z hz => by
                        by_cases e : u = at_
                        · subst e
                          rw [hxs.out] at hz
                          exact htk z (by rw [List.take_of_length_le (by omega)]; exact hz)
                        · exact hpre2 u hu (by omega) z hz
                      go_wp2_with fail
                      exact ⟨⟨at_ + 1, S2, by simp, by omega, by omega, hB2, hSn2, hsub2, hall2, hsame2, hSs2, hbs2⟩, by simp [intOf]; omega⟩
                  | false =>
                    rw [hon] at cat
                    have hall2 : ∀ u, onB S u → u < at_ + 1 → ∀ z ∈ nextM L u, onB S2 z.toNat := fun u hu h z hz => by
                      by_cases e : u = at_
                      · subst e
                        have := hsub2 _ hu
                        unfold onB at this
                        rw [hon] at this; cases this
                      · exact hpre2 u hu (by omega) z hz
                    go_wp2_with fail
                    exact ⟨⟨at_ + 1, S2, by simp, by omega, by omega, hB2, hSn2, hsub2, hall2, hsame2, hSs2, hbs2⟩, by simp [intOf]; omega⟩
              · have da : decide ((at_ : Int) < y) = false := by simp; omega
                have da2 : decide (at_ < y) = false := by simp; omega
                have hnew : Hid (Closed L S' ∨ n + 2 ≤ onN S' x y) := pass_end hp hkk hSn hSn' hsub (fun u hu t ht => hpre u hu (by have := (hSn.sound u hu).2.1; omega) t ht) hsame hcl
                go_wp2_with fail
                exact ⟨⟨n + 1, S', by simp, by omega, hB, hSn', hnew.out, hSs, hbs⟩, by simp [intOf]; omega⟩
          · have dn : decide ((n : Int) ≤ ((y - x : Nat) : Int)) = false := by simp; omega
            have dn2 : decide (n ≤ y - x) = false := by simp; omega
            have hC : Closed L S := pass_over hp hkk (by
              have e : n = y - x + 1 := by omega
              rw [e] at hcl; exact hcl)
            go_upto_region 18 with fail
            go_quiet (fail)
            have hB6 : Bools (wr.drewN nq) g (.slice (some ⟨g, 0, none⟩) (L.length + 1) (L.length + 1)) S := ⟨hB.val, hB.blk⟩
            have hS6 : SubsAt (wr.drewN nq) sb (.slice (some ⟨sb, 0, none⟩) SL.length cs) SL := ⟨hSs.val, hSs.lt, hSs.len, hSs.small, hSs.cell⟩
            have hb6 : Below w.heap.size w (wr.drewN nq) := ⟨hbs.os, hbs.tape, hbs.output, hbs.size, hbs.block⟩
            clear hB hSs hbs c0 c1
            generalize wr.drewN nq = W6 at hB6 hS6 hb6 ⊢
            obtain ⟨c0, c1⟩ := hS6.cell k (x, y) hz1'.out
            dsimp only at c0 c1
            go_wp2_with fail
            clear c0 c1
            go_loopw [13] (fun a wr => ∃ at_ : Nat, a = .int .i64 at_ ∧ x ≤ at_ ∧ at_ ≤ y ∧ Bools wr g (.slice (some ⟨g, 0, none⟩) (L.length + 1) (L.length + 1)) S ∧ SubsAt wr sb (.slice (some ⟨sb, 0, none⟩) SL.length cs) SL ∧ Below w.heap.size w wr) (fun a _ => y - (intOf a).toNat)
            case atStart => exact ⟨x, rfl, Nat.le_refl _, by omega, hB6, hS6, hb6⟩
            case round =>
              clear hB6 hS6 hb6
              obtain ⟨at_, rfl, hxa, hay, hBq, hSq, HB⟩ := hrel
              obtain ⟨c0, c1⟩ := hSq.cell k (x, y) hz1'.out
              dsimp only at c0 c1
              by_cases hlt5 : at_ < y
              · have da : decide ((at_ : Int) < y) = true := by simp; omega
                have da2 : decide (at_ < y) = true := by simp; omega
                have ea : IntKind.i64.wrap ((at_ : Int) + 1) = (at_ : Int) + 1 := IntWalk.i64_in _ (by omega)
                have k10 := fun W hW => callee_any AnyB _ L at_ W (hL.gr (w' := W) hW)
                unfold calleeV at k10
                have dat : decide ((0 : Int) ≤ (at_ : Int) ∧ (at_ : Int) < ((L.length + 1 : Nat) : Int)) = true := by simp; omega
                cases hon : S[at_]?.getD false with
                | true =>
                  have hbg := (hSn.sound at_ hon).2.2
                  have cq := hBq.cell at_ (by rw [hSn.len]; omega)
                  rw [hon] at cq
                  by_cases h00 : at_ = 0
                  · have d00 : decide ((0 : Int) < at_) = false := by simp; omega
                    have d01 : decide (0 < at_) = false := by simp; omega
                    replace h00 : Hid (at_ = 0) := h00
                    cases hcm : calleeM L at_ with
                    | none =>
                      rw [hcm] at k10
                      dsimp only at k10
                      clear hcm
                      go_wp2_with first | (go_at_call 24; refine (rk _).mono ?_; rintro e v1 ⟨rfl, hg1⟩; replace HB := HB.trans (hg1.below.mono HB.size); replace hBq := hBq.gr hg1.below; replace hSq := hSq.gr hg1.below; have cq1 := hBq.cell at_ (by rw [hSn.len]; omega); rw [hon] at cq1) | (go_at_call 10; refine (k10 _ HB).mono ?_; rintro e v2 ⟨rfl, hg2⟩; replace HB := HB.trans (hg2.below.mono HB.size); replace hBq := hBq.gr hg2.below; replace hSq := hSq.gr hg2.below; have cq2 := hBq.cell at_ (by rw [hSn.len]; omega); rw [hon] at cq2) | (go_at_call 25; refine (kb2 _ hSq).mono ?_; rintro e v3 ⟨rfl, rfl⟩)
                      exact ⟨⟨at_ + 1, by simp, by omega, by omega, hBq, hSq, HB⟩, by simp [intOf]; omega⟩
                    | some tt =>
                      rw [hcm] at k10
                      dsimp only at k10
                      obtain ⟨tt0, jb, yb, hjb⟩ := may_callee hp at_ hbg tt hcm
                      rw [hSL.out] at hjb
                      have kb2 : ∀ W, SubsAt W sb (.slice (some ⟨sb, 0, none⟩) SL.length cs) SL → Calls Tryz.prog 25 #[.slice (some ⟨sb, 0, none⟩) SL.length cs, .int .i64 tt] W fun e w' => e = .returned (.bool true) ∧ w' = W := fun W hW => by
                        have := kbg tt.toNat jb yb hjb sb _ W hW
                        rwa [Int.toNat_of_nonneg tt0] at this
                      clear hjb
                      clear hcm
                      go_wp2_with first | (go_at_call 24; refine (rk _).mono ?_; rintro e v1 ⟨rfl, hg1⟩; replace HB := HB.trans (hg1.below.mono HB.size); replace hBq := hBq.gr hg1.below; replace hSq := hSq.gr hg1.below; have cq1 := hBq.cell at_ (by rw [hSn.len]; omega); rw [hon] at cq1) | (go_at_call 10; refine (k10 _ HB).mono ?_; rintro e v2 ⟨rfl, hg2⟩; replace HB := HB.trans (hg2.below.mono HB.size); replace hBq := hBq.gr hg2.below; replace hSq := hSq.gr hg2.below; have cq2 := hBq.cell at_ (by rw [hSn.len]; omega); rw [hon] at cq2) | (go_at_call 25; refine (kb2 _ hSq).mono ?_; rintro e v3 ⟨rfl, rfl⟩)
                      exact ⟨⟨at_ + 1, by simp, by omega, by omega, hBq, hSq, HB⟩, by simp [intOf]; omega⟩
                  · obtain ⟨m, hmm⟩ : ∃ m, at_ = m + 1 := ⟨at_ - 1, by omega⟩
                    have em : IntKind.i64.wrap ((at_ : Int) - 1) = (m : Int) := by rw [IntWalk.i64_in _ (by omega)]; omega
                    have d00 : decide ((0 : Int) < at_) = true := by simp; omega
                    have d01 : decide (0 < at_) = true := by simp; omega
                    have dm : decide ((0 : Int) ≤ (m : Int) ∧ (m : Int) < ((L.length + 1 : Nat) : Int)) = true := by simp; omega
                    have dm2 : decide ((0 : Int) ≤ (m : Int) ∧ (m : Int) < (L.length : Int)) = true := by simp; omega
                    have cm := hBq.cell m (by rw [hSn.len]; omega)
                    have hml : m < L.length := by omega
                    replace hmm : Hid (at_ = m + 1) := hmm
                    cases hom : S[m]?.getD false with
                    | false =>
                      rw [hom] at cm
                      cases hcm : calleeM L at_ with
                      | none =>
                        rw [hcm] at k10
                        dsimp only at k10
                        clear hcm
                        go_wp2_with first | (go_at_call 24; refine (rk _).mono ?_; rintro e v1 ⟨rfl, hg1⟩; replace HB := HB.trans (hg1.below.mono HB.size); replace hBq := hBq.gr hg1.below; replace hSq := hSq.gr hg1.below; have cq1 := hBq.cell at_ (by rw [hSn.len]; omega); rw [hon] at cq1) | (go_at_call 10; refine (k10 _ HB).mono ?_; rintro e v2 ⟨rfl, hg2⟩; replace HB := HB.trans (hg2.below.mono HB.size); replace hBq := hBq.gr hg2.below; replace hSq := hSq.gr hg2.below; have cq2 := hBq.cell at_ (by rw [hSn.len]; omega); rw [hon] at cq2) | (go_at_call 25; refine (kb2 _ hSq).mono ?_; rintro e v3 ⟨rfl, rfl⟩)
                        exact ⟨⟨at_ + 1, by simp, by omega, by omega, hBq, hSq, HB⟩, by simp [intOf]; omega⟩
                      | some tt =>
                        rw [hcm] at k10
                        dsimp only at k10
                        obtain ⟨tt0, jb, yb, hjb⟩ := may_callee hp at_ hbg tt hcm
                        rw [hSL.out] at hjb
                        have kb2 : ∀ W, SubsAt W sb (.slice (some ⟨sb, 0, none⟩) SL.length cs) SL → Calls Tryz.prog 25 #[.slice (some ⟨sb, 0, none⟩) SL.length cs, .int .i64 tt] W fun e w' => e = .returned (.bool true) ∧ w' = W := fun W hW => by
                          have := kbg tt.toNat jb yb hjb sb _ W hW
                          rwa [Int.toNat_of_nonneg tt0] at this
                        clear hjb
                        clear hcm
                        go_wp2_with first | (go_at_call 24; refine (rk _).mono ?_; rintro e v1 ⟨rfl, hg1⟩; replace HB := HB.trans (hg1.below.mono HB.size); replace hBq := hBq.gr hg1.below; replace hSq := hSq.gr hg1.below; have cq1 := hBq.cell at_ (by rw [hSn.len]; omega); rw [hon] at cq1) | (go_at_call 10; refine (k10 _ HB).mono ?_; rintro e v2 ⟨rfl, hg2⟩; replace HB := HB.trans (hg2.below.mono HB.size); replace hBq := hBq.gr hg2.below; replace hSq := hSq.gr hg2.below; have cq2 := hBq.cell at_ (by rw [hSn.len]; omega); rw [hon] at cq2) | (go_at_call 25; refine (kb2 _ hSq).mono ?_; rintro e v3 ⟨rfl, rfl⟩)
                        exact ⟨⟨at_ + 1, by simp, by omega, by omega, hBq, hSq, HB⟩, by simp [intOf]; omega⟩
                    | true =>
                      rw [hom] at cm
                      obtain ⟨sm, hsm⟩ : ∃ sm, L[m]? = some sm := ⟨L[m], by simp [hml]⟩
                      have hkm : kindM L (m : Int) = sm.k := by rw [kindM, slotAt_nat hml, (List.getElem?_eq_some_iff.1 hsm).2]
                      obtain ⟨bm, om, cpm, hem, _, ⟨z0, z1, z2, z3, z4⟩, ⟨⟨o0, o1⟩, ⟨q0, q1⟩, ⟨r0, r1⟩, _⟩, _⟩ := (hL.gr HB).here.get (at_ := (m : Int)) (by omega) (by simpa using hsm)
                      cases hem
                      simp only [Int.toNat_natCast] at z0 z1 z2 z3 z4
                      have rk := fun W => rkind_any sm.o sm.d sm.s sm.f sm.i o0 o1 q0 q1 r0 r1 W
                      rw [show kV sm.o sm.d sm.s sm.f sm.i = sm.k from rfl] at rk
                      clear hsm
                      clear hkm
                      cases hk9 : (sm.k == 9) with
                      | true =>
                        cases hcm : calleeM L at_ with
                        | none =>
                          rw [hcm] at k10
                          dsimp only at k10
                          clear hcm
                          go_wp2_with first | (go_at_call 24; refine (rk _).mono ?_; rintro e v1 ⟨rfl, hg1⟩; replace HB := HB.trans (hg1.below.mono HB.size); replace hBq := hBq.gr hg1.below; replace hSq := hSq.gr hg1.below; have cq1 := hBq.cell at_ (by rw [hSn.len]; omega); rw [hon] at cq1) | (go_at_call 10; refine (k10 _ HB).mono ?_; rintro e v2 ⟨rfl, hg2⟩; replace HB := HB.trans (hg2.below.mono HB.size); replace hBq := hBq.gr hg2.below; replace hSq := hSq.gr hg2.below; have cq2 := hBq.cell at_ (by rw [hSn.len]; omega); rw [hon] at cq2) | (go_at_call 25; refine (kb2 _ hSq).mono ?_; rintro e v3 ⟨rfl, rfl⟩)
                          exact ⟨⟨at_ + 1, by simp, by omega, by omega, hBq, hSq, HB⟩, by simp [intOf]; omega⟩
                        | some tt =>
                          rw [hcm] at k10
                          dsimp only at k10
                          obtain ⟨tt0, jb, yb, hjb⟩ := may_callee hp at_ hbg tt hcm
                          rw [hSL.out] at hjb
                          have kb2 : ∀ W, SubsAt W sb (.slice (some ⟨sb, 0, none⟩) SL.length cs) SL → Calls Tryz.prog 25 #[.slice (some ⟨sb, 0, none⟩) SL.length cs, .int .i64 tt] W fun e w' => e = .returned (.bool true) ∧ w' = W := fun W hW => by
                            have := kbg tt.toNat jb yb hjb sb _ W hW
                            rwa [Int.toNat_of_nonneg tt0] at this
                          clear hjb
                          clear hcm
                          go_wp2_with first | (go_at_call 24; refine (rk _).mono ?_; rintro e v1 ⟨rfl, hg1⟩; replace HB := HB.trans (hg1.below.mono HB.size); replace hBq := hBq.gr hg1.below; replace hSq := hSq.gr hg1.below; have cq1 := hBq.cell at_ (by rw [hSn.len]; omega); rw [hon] at cq1) | (go_at_call 10; refine (k10 _ HB).mono ?_; rintro e v2 ⟨rfl, hg2⟩; replace HB := HB.trans (hg2.below.mono HB.size); replace hBq := hBq.gr hg2.below; replace hSq := hSq.gr hg2.below; have cq2 := hBq.cell at_ (by rw [hSn.len]; omega); rw [hon] at cq2) | (go_at_call 25; refine (kb2 _ hSq).mono ?_; rintro e v3 ⟨rfl, rfl⟩)
                          exact ⟨⟨at_ + 1, by simp, by omega, by omega, hBq, hSq, HB⟩, by simp [intOf]; omega⟩
                      | false =>
                        cases hcm : calleeM L at_ with
                        | none =>
                          rw [hcm] at k10
                          dsimp only at k10
                          clear hcm
                          go_wp2_with first | (go_at_call 24; refine (rk _).mono ?_; rintro e v1 ⟨rfl, hg1⟩; replace HB := HB.trans (hg1.below.mono HB.size); replace hBq := hBq.gr hg1.below; replace hSq := hSq.gr hg1.below; have cq1 := hBq.cell at_ (by rw [hSn.len]; omega); rw [hon] at cq1) | (go_at_call 10; refine (k10 _ HB).mono ?_; rintro e v2 ⟨rfl, hg2⟩; replace HB := HB.trans (hg2.below.mono HB.size); replace hBq := hBq.gr hg2.below; replace hSq := hSq.gr hg2.below; have cq2 := hBq.cell at_ (by rw [hSn.len]; omega); rw [hon] at cq2) | (go_at_call 25; refine (kb2 _ hSq).mono ?_; rintro e v3 ⟨rfl, rfl⟩)
                          exact ⟨⟨at_ + 1, by simp, by omega, by omega, hBq, hSq, HB⟩, by simp [intOf]; omega⟩
                        | some tt =>
                          rw [hcm] at k10
                          dsimp only at k10
                          obtain ⟨tt0, jb, yb, hjb⟩ := may_callee hp at_ hbg tt hcm
                          rw [hSL.out] at hjb
                          have kb2 : ∀ W, SubsAt W sb (.slice (some ⟨sb, 0, none⟩) SL.length cs) SL → Calls Tryz.prog 25 #[.slice (some ⟨sb, 0, none⟩) SL.length cs, .int .i64 tt] W fun e w' => e = .returned (.bool true) ∧ w' = W := fun W hW => by
                            have := kbg tt.toNat jb yb hjb sb _ W hW
                            rwa [Int.toNat_of_nonneg tt0] at this
                          clear hjb
                          clear hcm
                          go_wp2_with first | (go_at_call 24; refine (rk _).mono ?_; rintro e v1 ⟨rfl, hg1⟩; replace HB := HB.trans (hg1.below.mono HB.size); replace hBq := hBq.gr hg1.below; replace hSq := hSq.gr hg1.below; have cq1 := hBq.cell at_ (by rw [hSn.len]; omega); rw [hon] at cq1) | (go_at_call 10; refine (k10 _ HB).mono ?_; rintro e v2 ⟨rfl, hg2⟩; replace HB := HB.trans (hg2.below.mono HB.size); replace hBq := hBq.gr hg2.below; replace hSq := hSq.gr hg2.below; have cq2 := hBq.cell at_ (by rw [hSn.len]; omega); rw [hon] at cq2) | (go_at_call 25; refine (kb2 _ hSq).mono ?_; rintro e v3 ⟨rfl, rfl⟩)
                          exact ⟨⟨at_ + 1, by simp, by omega, by omega, hBq, hSq, HB⟩, by simp [intOf]; omega⟩
                | false =>
                  have cq := hBq.cell at_ (by rw [hSn.len]; omega)
                  rw [hon] at cq
                  obtain ⟨a0, hm1, hk9⟩ := half_seen hp hkk hSn hC at_ hxa hlt5 (by unfold onB; rw [hon]; simp)
                  obtain ⟨m, hmm⟩ : ∃ m, at_ = m + 1 := ⟨at_ - 1, by omega⟩
                  have em : IntKind.i64.wrap ((at_ : Int) - 1) = (m : Int) := by rw [IntWalk.i64_in _ (by omega)]; omega
                  have d00 : decide ((0 : Int) < at_) = true := by simp; omega
                  have d01 : decide (0 < at_) = true := by simp; omega
                  have dm : decide ((0 : Int) ≤ (m : Int) ∧ (m : Int) < ((L.length + 1 : Nat) : Int)) = true := by simp; omega
                  have dm2 : decide ((0 : Int) ≤ (m : Int) ∧ (m : Int) < (L.length : Int)) = true := by simp; omega
                  have cm := hBq.cell m (by rw [hSn.len]; omega)
                  have hml : m < L.length := by omega
                  rw [show at_ - 1 = m by omega] at hm1 hk9
                  unfold onB at hm1
                  rw [hm1] at cm
                  replace hmm : Hid (at_ = m + 1) := hmm
                  obtain ⟨sm, hsm⟩ : ∃ sm, L[m]? = some sm := ⟨L[m], by simp [hml]⟩
                  have hkm : kindM L (m : Int) = sm.k := by rw [kindM, slotAt_nat hml, (List.getElem?_eq_some_iff.1 hsm).2]
                  obtain ⟨bm, om, cpm, hem, _, ⟨z0, z1, z2, z3, z4⟩, ⟨⟨o0, o1⟩, ⟨q0, q1⟩, ⟨r0, r1⟩, _⟩, _⟩ := (hL.gr HB).here.get (at_ := (m : Int)) (by omega) (by simpa using hsm)
                  cases hem
                  simp only [Int.toNat_natCast] at z0 z1 z2 z3 z4
                  have rk := fun W => rkind_any sm.o sm.d sm.s sm.f sm.i o0 o1 q0 q1 r0 r1 W
                  rw [show kV sm.o sm.d sm.s sm.f sm.i = sm.k from rfl] at rk
                  clear hsm
                  rw [hkm] at hk9
                  rw [hk9] at rk
                  clear hkm hk9
                  cases hcm : calleeM L at_ with
                  | none =>
                    rw [hcm] at k10
                    dsimp only at k10
                    clear hcm
                    go_wp2_with first | (go_at_call 24; refine (rk _).mono ?_; rintro e v1 ⟨rfl, hg1⟩; replace HB := HB.trans (hg1.below.mono HB.size); replace hBq := hBq.gr hg1.below; replace hSq := hSq.gr hg1.below; have cq1 := hBq.cell at_ (by rw [hSn.len]; omega); rw [hon] at cq1) | (go_at_call 10; refine (k10 _ HB).mono ?_; rintro e v2 ⟨rfl, hg2⟩; replace HB := HB.trans (hg2.below.mono HB.size); replace hBq := hBq.gr hg2.below; replace hSq := hSq.gr hg2.below; have cq2 := hBq.cell at_ (by rw [hSn.len]; omega); rw [hon] at cq2) | (go_at_call 25; refine (kb2 _ hSq).mono ?_; rintro e v3 ⟨rfl, rfl⟩)
                    exact ⟨⟨at_ + 1, by simp, by omega, by omega, hBq, hSq, HB⟩, by simp [intOf]; omega⟩
                  | some tt =>
                    rw [hcm] at k10
                    dsimp only at k10
                    clear hcm
                    go_wp2_with first | (go_at_call 24; refine (rk _).mono ?_; rintro e v1 ⟨rfl, hg1⟩; replace HB := HB.trans (hg1.below.mono HB.size); replace hBq := hBq.gr hg1.below; replace hSq := hSq.gr hg1.below; have cq1 := hBq.cell at_ (by rw [hSn.len]; omega); rw [hon] at cq1) | (go_at_call 10; refine (k10 _ HB).mono ?_; rintro e v2 ⟨rfl, hg2⟩; replace HB := HB.trans (hg2.below.mono HB.size); replace hBq := hBq.gr hg2.below; replace hSq := hSq.gr hg2.below; have cq2 := hBq.cell at_ (by rw [hSn.len]; omega); rw [hon] at cq2) | (go_at_call 25; refine (kb2 _ hSq).mono ?_; rintro e v3 ⟨rfl, rfl⟩)
                    exact ⟨⟨at_ + 1, by simp, by omega, by omega, hBq, hSq, HB⟩, by simp [intOf]; omega⟩
              · have da : decide ((at_ : Int) < y) = false := by simp; omega
                have da2 : decide (at_ < y) = false := by simp; omega
                have hen2 := hen1.out
                go_wp2_with fail
                exact ⟨⟨k + 1, by rw [hen2], by simp, by omega, hSq, HB⟩, by simp [intOf]; omega⟩
      · have dk : decide ((k : Int) < SL.length) = false := by simp; omega
        have hfin : endAt L k = L.length := by
          unfold endAt
          rw [List.getElem?_eq_none (by rw [hSL.out]; omega)]
        rw [hfin]
        clear hfin
        go_wp2_with first | (go_at_call 7; refine (hal _).mono ?_; rintro e w4 ⟨rfl, hb4⟩)
        go_returns
        exact ⟨rfl, hbr.trans (hb4.mono hbr.size)⟩
  · have hq : (((chkM L).2 : Int) != 0) = true := by simpa using hz
    go_enter Tryz.func6, Tryz.ntmps6
    go_wp2_with first | (go_at_call 20; refine kc.mono ?_; rintro e w1 ⟨v, rfl, _, h2, hb⟩; obtain rfl := h2 hz) | (go_at_call 7; refine (hal _).mono ?_; rintro e w2 ⟨rfl, hb2⟩)
    go_returns
    exact ⟨rfl, hb.trans (hb2.mono hb.size)⟩
end Go.Proofs.YtdmdmbcapjmnlaaGreat
