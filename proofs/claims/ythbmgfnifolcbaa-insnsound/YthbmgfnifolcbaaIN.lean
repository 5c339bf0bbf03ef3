/- Towards the statements of package insn (layer 7): an instruction as an argument, opened and shut; what a call leaves that hands nothing on; regions of open order whose calls make memory. -/
import Derived.Test.YthbmgfnifolcbaaAL
import Derived.WalkKit
import Derived.ProofKit
import Derived.OpenShut
import Derived.ShutString
namespace Go.Proofs.Ythbmgfnifolcbaa
open Go.ChangeShapes Go.WideShapes Go.ChangeAt Go.RowKit
set_option linter.unusedVariables false
set_option linter.unusedSimpArgs false

theorem cells24 : Try.prog.cellsOf 24 = 5 := by kernel_rfl
theorem cells5 : Try.prog.cellsOf 5 = 1 := by kernel_rfl
theorem cells22 : Try.prog.cellsOf 22 = 1 := by kernel_rfl
theorem cells21 : Try.prog.cellsOf 21 = 1 := by kernel_rfl
theorem arr5 {α : Type} {cs : Array α} (h : cs.size = 5) : ∃ c0 c1 c2 c3 c4, cs = #[c0, c1, c2, c3, c4] := by
  obtain ⟨l⟩ := cs
  match l, h with
  | [c0, c1, c2, c3, c4], _ => exact ⟨c0, c1, c2, c3, c4, rfl⟩
section
variable {H : Type} {enc : TypeId × Value → H} {w : World} {base : Nat} {spare : Nat → Bool} {held : Bool}
theorem open_insn {r : Reach} {b0 : Nat} {v : Value} {d : DataW H} {p : List MemPlace} (hv : Value.okWide Try.prog w r b0 24 v) (h : DataW.Trod enc Try.prog w base spare held 24 v d p) :
    ∃ m0 m1 m2 m3 m4 : Int, v = .agg #[.int .u8 m0, .int .u8 m1, .int .u8 m2, .int .i16 m3, .int .i32 m4] ∧ d = .agg [.lit (.int .u8 m0), .lit (.int .u8 m1), .lit (.int .u8 m2), .lit (.int .i16 m3), .lit (.int .i32 m4)] ∧ p = [] ∧ (Lit.int .u8 m0).wf = true ∧ (Lit.int .u8 m1).wf = true ∧ (Lit.int .u8 m2).wf = true ∧ (Lit.int .i16 m3).wf = true ∧ (Lit.int .i32 m4).wf = true := by
  obtain ⟨cs, rfl, hsz⟩ := okWide_struct Try.underlying24 hv
  obtain ⟨c0, c1, c2, c3, c4, rfl⟩ := arr5 (hsz.trans cells24)
  obtain ⟨fuel, hf⟩ := h
  obtain ⟨xs, n, _, hx, _, hlen, hi⟩ := DataW.trod_struct Try.underlying24 hf
  match xs, hlen with
  | [y0, y1, y2, y3, y4], _ =>
    have h0 := hi 0 _ rfl
    simp [Value.cells, cells5, cells22, cells21] at h0
    obtain ⟨m0, f0, rfl, w0⟩ := DataW.trod_int Try.underlying5 h0
    simp at f0
    subst f0
    have h1 := hi 1 _ rfl
    simp [Value.cells, cells5, cells22, cells21] at h1
    obtain ⟨m1, f1, rfl, w1⟩ := DataW.trod_int Try.underlying5 h1
    simp at f1
    subst f1
    have h2 := hi 2 _ rfl
    simp [Value.cells, cells5, cells22, cells21] at h2
    obtain ⟨m2, f2, rfl, w2⟩ := DataW.trod_int Try.underlying5 h2
    simp at f2
    subst f2
    have h3 := hi 3 _ rfl
    simp [Value.cells, cells5, cells22, cells21] at h3
    obtain ⟨m3, f3, rfl, w3⟩ := DataW.trod_int Try.underlying22 h3
    simp at f3
    subst f3
    have h4 := hi 4 _ rfl
    simp [Value.cells, cells5, cells22, cells21] at h4
    obtain ⟨m4, f4, rfl, w4⟩ := DataW.trod_int Try.underlying21 h4
    simp at f4
    subst f4
    simp at hx
    exact ⟨m0, m1, m2, m3, m4, rfl, hx.1, hx.2, w0, w1, w2, w3, w4⟩
theorem shut_insn {m0 m1 m2 m3 m4 : Int} (w0 : (Lit.int .u8 m0).wf = true) (w1 : (Lit.int .u8 m1).wf = true) (w2 : (Lit.int .u8 m2).wf = true) (w3 : (Lit.int .i16 m3).wf = true) (w4 : (Lit.int .i32 m4).wf = true) : DataW.Trod enc Try.prog w base spare held 24 (.agg #[.int .u8 m0, .int .u8 m1, .int .u8 m2, .int .i16 m3, .int .i32 m4]) (.agg [.lit (.int .u8 m0), .lit (.int .u8 m1), .lit (.int .u8 m2), .lit (.int .i16 m3), .lit (.int .i32 m4)]) [] := by
  refine ⟨2, ?_⟩
  have k := trod_struct_mk (enc := enc) (w := w) (base := base) (spare := spare) (held := held) (n := 1) (cs := [.int .u8 m0, .int .u8 m1, .int .u8 m2, .int .i16 m3, .int .i32 m4]) (xs := [(.lit (.int .u8 m0), []), (.lit (.int .u8 m1), []), (.lit (.int .u8 m2), []), (.lit (.int .i16 m3), []), (.lit (.int .i32 m4), [])]) Try.underlying24 (by rw [cells24]; rfl) (by simp [cells5, cells22, cells21, trod_int_mk 0 Try.underlying5 w0, trod_int_mk 0 Try.underlying5 w1, trod_int_mk 0 Try.underlying5 w2, trod_int_mk 0 Try.underlying22 w3, trod_int_mk 0 Try.underlying21 w4])
  simpa [Value.cells] using k
end
/-- A call whose arguments lie in no memory, and that leaves what was there as it was. -/
theorem post_nil {H : Type} {enc : TypeId × Value → H} {P : Program} {f : Func} {s : ChangeSpec} {apart fresh handsOn again : Bool} {W W' : World} {args : Array Value} {v : Value} {ds gs : List (DataW H)}
    (hW : DataW.Whole enc P f.params.toList s.vars apart W args.toList ds gs [])
    (hres : ∀ (b : Nat) (sp : Nat → Bool) (hd : Bool), DataW.TrodAll enc P W' b sp hd f.resultTypes.toList (v.resultList f.resultTypes.size) (s.fn H (ds ++ gs)).results [])
    (hargs : ∀ sp : Nat → Bool, DataW.TrodAll enc P W' 0 sp true f.params.toList args.toList (s.fn H (ds ++ gs)).args [])
    (hvars : ∀ sp : Nat → Bool, DataW.TrodVars enc P W' sp s.vars (s.fn H (ds ++ gs)).vars [])
    (hb : Below W.heap.size W W')
    (hok : ∀ (j : Nat) (t : TypeId) (r : Value), f.resultTypes[j]? = some t → (v.resultList f.resultTypes.size)[j]? = some r → Value.okWide P W' .any 0 t r) :
    s.post enc P f apart fresh handsOn again W args v W' := by
  refine ⟨ds, gs, [], [], [], [], hW, hres _ _ _, hargs _, hvars _, hb.frame _, fun _ => ?_⟩
  refine ⟨hok, _, _, [], ⟨[], [], trodAll_append (hargs (fun _ => true)) (hres _ _ _), hvars (fun _ => true), rfl, ?_, ?_⟩, ?_⟩
  · intro b off hp
    cases hp
  · intro _
    simp
  · intro p hp _
    cases hp
/-- A world that has grown out of w, what was there as it was. -/
structure GbBy (w : World) where
  tw : World
  gb : Below w.heap.size w tw
theorem wp_region_gb {P : Program} {id : Nat} {Q : Exit → Act → World → Prop} {a : Act} {w : World} {l : List Oper} (hm : P.follows .mixedOrders = true) (hB : Region.lexB .any l.toArray = true)
    (h : wpQuiet P l.toArray (fun w' => ∃ p : GbBy w, w' = p.tw) (fun a' => ∀ w', (∃ p : GbBy w, w' = p.tw) → Q .normal a' w') l a) : (Code.region id l.toArray true).wp P Q a w :=
  wp_region_quiet (C := fun w' => ∃ p : GbBy w, w' = p.tw) hm hB ⟨⟨w.drew, (Below.refl _ w).drew⟩, rfl⟩ (by simpa using h)
theorem calls_gb {P : Program} {f : FuncId} {args : Array Value} {w : World} {p : GbBy w} {v : Value} (h : Calls P f args p.tw fun e w' => e = .returned v ∧ Below p.tw.heap.size p.tw w') :
    Calls P f args p.tw fun e w' => e = .returned v ∧ ∃ q : GbBy w, w' = q.tw :=
  h.mono fun _ w' ⟨he, hg⟩ => ⟨he, ⟨w', p.gb.trans (hg.mono p.gb.size)⟩, rfl⟩
theorem At5.allb {w : World} {b : Nat} {o d s f i : Int} (h : At5 w b o d s f i) (p : GbBy w) : p.tw.cell? ⟨b, 0, none⟩ = some (.int .u8 o) ∧ p.tw.cell? ⟨b, 1, none⟩ = some (.int .u8 d) ∧ p.tw.cell? ⟨b, 2, none⟩ = some (.int .u8 s) ∧ p.tw.cell? ⟨b, 3, none⟩ = some (.int .i16 f) ∧ p.tw.cell? ⟨b, 4, none⟩ = some (.int .i32 i) := (h.below p.gb).cells
theorem bd_u8 {m : Int} (h : (Lit.int .u8 m).wf = true) : 0 ≤ m ∧ m ≤ 255 := by
  simpa [Lit.wf, IntKind.min, IntKind.max, IntKind.signed, IntKind.bits] using h
theorem bd_i16 {m : Int} (h : (Lit.int .i16 m).wf = true) : -32768 ≤ m ∧ m ≤ 32767 := by
  simpa [Lit.wf, IntKind.min, IntKind.max, IntKind.signed, IntKind.bits] using h
theorem bd_i32 {m : Int} (h : (Lit.int .i32 m).wf = true) : -2147483648 ≤ m ∧ m ≤ 2147483647 := by
  simpa [Lit.wf, IntKind.min, IntKind.max, IntKind.signed, IntKind.bits] using h
end Go.Proofs.Ythbmgfnifolcbaa
