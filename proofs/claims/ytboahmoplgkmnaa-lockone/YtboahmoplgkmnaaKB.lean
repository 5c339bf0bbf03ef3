/- Towards the statements of package lock (layer 18): arguments read as before, where all below the call's heap is as it was. -/
import Derived.Test.YtboahmoplgkmnaaKA
import Derived.Lib.SmallJoins
import Derived.Stop.Joined
namespace Go.Proofs.Ytboahmoplgkmnaa
open Go.ChangeShapes Go.WideShapes Go.ChangeAt Go.RowKit
set_option linter.unusedVariables false
set_option linter.unusedSimpArgs false
set_option maxRecDepth 20000
theorem laidOut : laidOutB Try.prog = true := by kernel_rfl
theorem trodAll_stays {H : Type} {enc : TypeId × Value → H} {W W' : World} (hb : Below W.heap.size W W') {sp : Nat → Bool} : ∀ (ts : List TypeId) (vs : List Value) (ds : List (DataW H)) (ps : List MemPlace), (∀ t ∈ ts, Try.prog.readableRec t = true ∧ t < Try.prog.types.size) →
    DataW.TrodAll enc Try.prog W 0 (fun _ => true) true ts vs ds ps → (∀ x ∈ ps, x.block < W.heap.size) → (∀ x ∈ ps, sp x.block = true) → DataW.TrodAll enc Try.prog W' 0 sp true ts vs ds ps
  | [], vs, ds, ps, _, h, _, _ => by
    obtain ⟨rfl, rfl, rfl⟩ := trodAll_nil h
    exact trodAll_mk0
  | t :: ts, vs, ds, ps, hr, h, hlt, hs => by
    obtain ⟨v, vs', d, ds', p, q, rfl, rfl, rfl, h1, h2⟩ := trodAll_cons h
    exact trodAll_cons_mk (WideElems.Trod_stays laidOut (hr t (by simp)).1 (hr t (by simp)).2 h1 (fun x hx => hb.same (hlt x (by simp [hx]))) (fun x hx => hs x (by simp [hx])))
      (trodAll_stays hb ts vs' ds' q (fun t ht => hr t (by simp [ht])) h2 (fun x hx => hlt x (by simp [hx])) (fun x hx => hs x (by simp [hx])))
theorem post_bel {H : Type} {enc : TypeId × Value → H} {f : Func} {s : ChangeSpec} {fresh handsOn again : Bool} {W W' : World} {args : Array Value} {v : Value} {ds : List (DataW H)} {before : List MemPlace}
    (hrd : ∀ t ∈ f.params.toList, Try.prog.readableRec t = true ∧ t < Try.prog.types.size)
    (hW : DataW.Whole enc Try.prog f.params.toList s.vars false W args.toList ds [] before) (hvs : s.vars = [])
    (hres : ∀ (b : Nat) (sp : Nat → Bool) (hd : Bool), DataW.TrodAll enc Try.prog W' b sp hd f.resultTypes.toList (v.resultList f.resultTypes.size) (s.fn H (ds ++ [])).results [])
    (hargs : (s.fn H (ds ++ [])).args = ds) (hvars : ∀ sp : Nat → Bool, DataW.TrodVars enc Try.prog W' sp s.vars (s.fn H (ds ++ [])).vars [])
    (hb : Below W.heap.size W W')
    (hok : ∀ (j : Nat) (t : TypeId) (r : Value), f.resultTypes[j]? = some t → (v.resultList f.resultTypes.size)[j]? = some r → Value.okWide Try.prog W' .any 0 t r) :
    s.post enc Try.prog f false fresh handsOn again W args v W' := by
  have hlt : ∀ p ∈ before, p.block < W.heap.size := fun p hp => hW.lt p hp
  obtain ⟨p, q, hA, hV, hpq, hz, hn⟩ := id hW
  have hq : q = [] := by
    rw [hvs] at hV
    exact (trodVars_none hV).2
  subst hq
  rw [List.append_nil] at hpq
  subst hpq
  have key : ∀ sp : Nat → Bool, (∀ x ∈ before, sp x.block = true) → DataW.TrodAll enc Try.prog W' 0 sp true f.params.toList args.toList (s.fn H (ds ++ [])).args before := fun sp hs => by
    rw [hargs]
    exact trodAll_stays hb _ _ _ _ hrd hA hlt hs
  refine ⟨ds, [], before, [], before, [], hW, hres _ _ _, key _ (fun x hx => by simpa using hlt x hx), hvars _, World.keptBut_mono (fun p hp => ⟨hp, .inr (.inl hp)⟩) (hb.frame _), fun _ => ?_⟩
  refine ⟨hok, _, _, [] ++ before ++ [], ⟨[] ++ before, [], trodAll_append (key _ (fun _ _ => rfl)) (hres _ _ _), hvars _, rfl, ?_, ?_⟩, ?_⟩
  · intro b off hp
    have hp' : MemPlace.cell b off ∈ before := by simpa using hp
    rw [hb.frozen (p := ⟨b, off, none⟩) (hlt _ hp')]
    exact hz b off hp'
  · intro h; cases h
  · intro x hx _
    simpa using hx

def I64 (x : Int) : Prop := -9223372036854775808 ≤ x ∧ x ≤ 9223372036854775807
/-- A step of a script: whether one is given back, the map, the slot. -/
structure St where
  d : Bool
  s : Int
  g : Int
structure StAt (w : World) (b o : Nat) (x : St) : Prop where
  c0 : w.cell? ⟨b, o, none⟩ = some (.bool x.d)
  c1 : w.cell? ⟨b, o + 1, none⟩ = some (.int .i64 x.s)
  c2 : w.cell? ⟨b, o + 2, none⟩ = some (.int .i64 x.g)
def Sts (w : World) (p : Option Addr) (L : List St) : Prop := (∀ x ∈ L, I64 x.s ∧ I64 x.g) ∧ (L = [] ∨ ∃ b o, p = some ⟨b, o, none⟩ ∧ b < w.heap.size ∧ ∀ j x, L[j]? = some x → StAt w b (o + j * 3) x)
theorem Sts.below {B : Nat} {w w' : World} {p : Option Addr} {L : List St} (h : Sts w p L) (hb : Below w.heap.size w w') : Sts w' p L := by
  refine ⟨h.1, ?_⟩
  rcases h.2 with e | ⟨b, o, e, hl, hc⟩
  · exact .inl e
  · exact .inr ⟨b, o, e, Nat.lt_of_lt_of_le hl hb.size, fun j x hx => ⟨(hb.cell hl).trans (hc j x hx).c0, (hb.cell hl).trans (hc j x hx).c1, (hb.cell hl).trans (hc j x hx).c2⟩⟩
theorem cells27 : Try.prog.cellsOf 27 = 3 := by kernel_rfl
theorem cells4 : Try.prog.cellsOf 4 = 1 := by kernel_rfl
theorem cells3 : Try.prog.cellsOf 3 = 1 := by kernel_rfl
theorem wf_i64 {m : Int} (h : (Lit.int .i64 m).wf = true) : I64 m := by
  simpa [I64, Lit.wf, IntKind.min, IntKind.max, IntKind.signed, IntKind.bits] using h
theorem wf_u64 {m : Int} (h : (Lit.int .u64 m).wf = true) : 0 ≤ m ∧ m ≤ 18446744073709551615 := by
  simpa [Lit.wf, IntKind.min, IntKind.max, IntKind.signed, IntKind.bits] using h
theorem wf_u8 {m : Int} (h : (Lit.int .u8 m).wf = true) : 0 ≤ m ∧ m ≤ 255 := by
  simpa [Lit.wf, IntKind.min, IntKind.max, IntKind.signed, IntKind.bits] using h
theorem cell_spot {w : World} {a : Addr} {v : Value} (h : w.cell? a = some v) : a.spot = none := by
  unfold World.cell? at h
  split at h
  · split at h
    · cases h
    · rename_i hs; simpa using hs
  · cases h
theorem add_of {a : Addr} (h : a.spot = none) (n : Nat) : a.add n = ⟨a.block, a.off + n, none⟩ := by
  cases a with | mk b o s =>
  simp only at h
  subst h
  unfold Addr.add
  split
  · rename_i e; subst e; rfl
  · rfl
theorem rows_of {α : Type} {Q : Nat → α → Prop} : ∀ n : Nat, (∀ i, i < n → ∃ x, Q i x) → ∃ L : List α, L.length = n ∧ ∀ j x, L[j]? = some x → Q j x
  | 0, _ => ⟨[], rfl, by simp⟩
  | n + 1, h => by
    obtain ⟨L, hl, hL⟩ := rows_of n fun i hi => h i (by omega)
    obtain ⟨x, hx⟩ := h n (by omega)
    refine ⟨L ++ [x], by simp [hl], fun j y hy => ?_⟩
    by_cases hj : j < n
    · rw [List.getElem?_append_left (by omega)] at hy
      exact hL j y hy
    · have hj2 : j = n := by
        have := (List.getElem?_eq_some_iff.1 hy).1
        simp at this; omega
      subst hj2
      rw [List.getElem?_append_right (by omega), hl] at hy
      simp at hy
      subst hy
      exact hx
theorem len3 {α : Type} {cs : List α} (h : cs.length = 3) : ∃ c0 c1 c2, cs = [c0, c1, c2] := by
  match cs, h with
  | [c0, c1, c2], _ => exact ⟨c0, c1, c2, rfl⟩
section
variable {H : Type} {enc : TypeId × Value → H} {w : World} {spare : Nat → Bool} {held : Bool}
theorem open_one {n : Nat} {cs : List Value} {y : DataW H × List MemPlace} (h : DataW.trod enc Try.prog w 0 spare held n 27 cs = some y) :
    ∃ x : St, (I64 x.s ∧ I64 x.g) ∧ cs = [.bool x.d, .int .i64 x.s, .int .i64 x.g] := by
  obtain ⟨xs, m, _, hx, hcl, hlen, hi⟩ := DataW.trod_struct Try.underlying27 h
  obtain ⟨c0, c1, c2, rfl⟩ := len3 (hcl.trans cells27)
  match xs, hlen with
  | [y0, y1, y2], _ =>
    have h0 := hi 0 _ rfl
    simp [cells4, cells3] at h0
    obtain ⟨m0, f0, -⟩ := DataW.trod_bool Try.underlying4 h0
    have h1 := hi 1 _ rfl
    simp [cells4, cells3] at h1
    obtain ⟨m1, f1, -, w1⟩ := DataW.trod_int Try.underlying3 h1
    have h2 := hi 2 _ rfl
    simp [cells4, cells3] at h2
    obtain ⟨m2, f2, -, w2⟩ := DataW.trod_int Try.underlying3 h2
    simp at f0 f1 f2
    subst f0 f1 f2
    exact ⟨⟨m0, m1, m2⟩, ⟨wf_i64 w1, wf_i64 w2⟩, rfl⟩
theorem open_sts {r : Reach} {b0 : Nat} {v : Value} {d : DataW H} {p : List MemPlace} (hv : Value.okWide Try.prog w r b0 22 v) (h : DataW.Trod enc Try.prog w 0 spare held 22 v d p) :
    ∃ (a : Option Addr) (L : List St) (cap : Nat), v = .slice a L.length cap ∧ Sts w a L := by
  obtain ⟨a, len, cap, rfl⟩ := okWide_slice Try.underlying22 hv
  obtain ⟨fuel, hf⟩ := h
  rcases DataW.trod_slice Try.underlying22 hf with ⟨h0, _⟩ | ⟨a', len', cap', elems, rest, n, _, h0, _, _, _, _, hel, hget, _⟩
  · simp [Value.cells] at h0
    obtain ⟨rfl, rfl, rfl⟩ := h0
    exact ⟨none, [], 0, rfl, by simp, .inl rfl⟩
  · simp [Value.cells] at h0
    obtain ⟨rfl, rfl, rfl⟩ := h0
    have each : ∀ i, i < len → ∃ x : St, (I64 x.s ∧ I64 x.g) ∧ a'.spot = none ∧ StAt w a'.block (a'.off + i * 3) x ∧ a'.block < w.heap.size := by
      intro i hi
      have h1 := hget i hi
      rw [List.getElem?_eq_getElem (by omega), Option.bind_eq_some_iff] at h1
      obtain ⟨cs, hcs, ht⟩ := h1
      obtain ⟨x, hx, rfl⟩ := open_one ht
      rw [cells27] at hcs
      obtain ⟨_, _, hc⟩ := World.cells?_some hcs
      have g0 := hc 0 (by omega)
      have g1 := hc 1 (by omega)
      have g2 := hc 2 (by omega)
      simp only [List.getElem?_cons_zero, List.getElem?_cons_succ] at g0 g1 g2
      have hsp : a'.spot = none := by
        have h1 := hget 0 (by omega)
        rw [List.getElem?_eq_getElem (by omega), Option.bind_eq_some_iff] at h1
        obtain ⟨cs, hcs, ht⟩ := h1
        obtain ⟨x, hx, rfl⟩ := open_one ht
        rw [cells27] at hcs
        have g0 := (World.cells?_some hcs).2.2 0 (by omega)
        simp only [List.getElem?_cons_zero] at g0
        have hs := cell_spot g0
        simpa [Addr.add] using hs
      refine ⟨x, hx, hsp, ?_, ?_⟩
      · rw [add_of hsp] at g0 g1 g2
        rw [add_of rfl] at g0 g1 g2
        exact ⟨g0, g1, g2⟩
      · rw [add_of hsp, add_of rfl] at g0
        exact cell_lt (p := ⟨a'.block, _, none⟩) g0
    obtain ⟨L, hl, hL⟩ := rows_of len each
    subst hl
    refine ⟨some a', L, cap, rfl, fun x hx => ?_, ?_⟩
    · obtain ⟨j, hj⟩ := List.getElem?_of_mem hx
      exact (hL j x hj).1
    · by_cases h0 : L.length = 0
      · exact .inl (List.eq_nil_of_length_eq_zero h0)
      · obtain ⟨x, hx⟩ : ∃ x, L[0]? = some x := ⟨L[0]'(by omega), List.getElem?_eq_getElem _⟩
        obtain ⟨_, hsp, _, hlt⟩ := hL 0 x hx
        refine .inr ⟨a'.block, a'.off, ?_, hlt, fun j x hx => (hL j x hx).2.2.1⟩
        have : a' = ⟨a'.block, a'.off, none⟩ := by cases a'; simp at hsp; rw [hsp]
        rw [← this]
end
theorem idxS {w : World} {p : Option Addr} {L : List St} (h : Sts w p L) {i : Nat} (hi : i < L.length) : ∃ b o x, L[i]? = some x ∧ StAt w b o x ∧ b < w.heap.size ∧ (I64 x.s ∧ I64 x.g) ∧ ∀ c W, (Instr.indexAt 22 (.slice p L.length c) (.int .i64 i)).run Try.prog W = .ok (.pointer (some ⟨b, o, none⟩)) W := by
  have hx : L[i]? = some L[i] := List.getElem?_eq_getElem hi
  rcases h.2 with e | ⟨b, o, rfl, hl, hc⟩
  · subst e; simp at hi
  · refine ⟨b, o + i * 3, _, hx, hc i _ hx, hl, h.1 _ (List.getElem_mem hi), fun c W => ?_⟩
    have hi2 : (i : Int) < L.length := by omega
    simp [go_sem, hi]
theorem works_any (w : World) : Calls Try.prog 7 #[] w fun e w' => e = .returned (.bool true) ∧ Below w.heap.size w w' := by
  have k1 := new_any w
  go_enter Try.func7, Try.ntmps7
  go_upto_region 2 with (go_at_call 8; refine k1.mono ?_; rintro e w1 ⟨rfl, h1, hb1⟩)
  generalize hB : w.heap.size = B at h1 hb1 ⊢
  replace hB : Hid _ := hB
  have k2 := take_ok w1 h1 1 2
  clear k1 h1
  go_wp2_with (first
    | (go_at_call 10; refine k2.mono ?_; clear k2; rintro e w2 ⟨rfl, h2, hf2⟩; have k3 := take_bad w2 h2 1 3; have k4 := held_any w2 h2; have l2 := Nat.le_of_lt h2.lt)
    | (go_at_call 10; refine k3.mono ?_; clear k3; rintro e w3 ⟨rfl, hw⟩; rw [hw]; clear hw w3)
    | (go_at_call 11; refine k4.mono ?_; clear k4; rintro e w4 ⟨rfl, hb4⟩; have h4 := h2.bel hb4; have k5 := give_bad w4 h4 1 3 (by decide); clear h2; have l4 := Nat.le_of_lt h4.lt)
    | (go_at_call 9; refine k5.mono ?_; clear k5; rintro e w5 ⟨rfl, hb5⟩; have h5 := h4.bel hb5; have k6 := give_ok w5 h5 (by decide); clear h4; have l5 := Nat.le_of_lt h5.lt)
    | (go_at_call 9; refine k6.mono ?_; clear k6; rintro e w6 ⟨rfl, h6, hf6⟩; have k7 := epoch_any w6 h6; have k8 := is_any w6 h6 1 2; clear h5; have l6 := Nat.le_of_lt h6.lt)
    | (go_at_call 12; refine k7.mono ?_; clear k7; rintro e w7 ⟨rfl, hw⟩; rw [hw]; clear hw w7)
    | (go_at_call 13; refine k8.mono ?_; clear k8; rintro e w8 ⟨rfl, hb8⟩))
  all_goals go_returns
  rw [hB.out]
  exact ⟨rfl, (((hb1.trans (hf2.bel.trans (hb4.mono l2))).trans (hb5.mono l4)).trans hf6.bel).trans (hb8.mono l6)⟩
end Go.Proofs.Ytboahmoplgkmnaa
