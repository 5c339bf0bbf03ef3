/- Towards the statements of package graph (layer 17): what a place has, as an interface; methods behind it. -/
import Derived.Test.YthgpbbpmfpfjnaaGP
import Derived.Test.YthgpbbpmfpfjnaaGF
import Derived.Test.YthgpbbpmfpfjnaaTR
import Derived.Deep.CutBlock
namespace Go.Proofs.Ythgpbbpmfpfjnaa
open Go.ChangeShapes Go.WideShapes Go.ChangeAt Go.RowKit
set_option linter.unusedVariables false
set_option linter.unusedSimpArgs false
set_option maxRecDepth 20000
abbrev PKey := P.HKey
abbrev FKey := F.HKey
abbrev pK (p : PKey) : Value := P.hK p
abbrev hK2 (h : HKey) : Value := .agg #[.int .i64 h.1, .int .u64 h.2]
def none94 : Value := .iface 94 (.agg #[.pointer none])
theorem ne24_no (W : World) : (binOp .neq 24 (.pointer none) (.pointer none)).run Try.prog W = .ok (.bool false) W := by kernel_rfl
theorem ne24_yes (x : Nat) (W : World) : (binOp .neq 24 (.pointer (some ⟨x, 0, none⟩)) (.pointer none)).run Try.prog W = .ok (.bool true) W := by kernel_rfl
theorem ne54_yes (x : Nat) (W : World) : (binOp .neq 54 (.map (some x)) (.map none)).run Try.prog W = .ok (.bool true) W := by kernel_rfl
theorem eq76_no (W : World) : (binOp .eql 76 (.pointer none) (.pointer none)).run Try.prog W = .ok (.bool true) W := by kernel_rfl
theorem eq76_yes (x : Nat) (W : World) : (binOp .eql 76 (.pointer (some ⟨x, 0, none⟩)) (.pointer none)).run Try.prog W = .ok (.bool false) W := by kernel_rfl
theorem zero76 (w : World) : (zeroValue 76).run Try.prog w = .ok (.pointer none) w := by kernel_rfl
theorem pl_cells {W : World} {b : Nat} {p : PKey} {t : TypeId} (h : W.heap[b]? = some (.cells #[.int .i64 p.1, .int .i64 p.2.1, .int .i64 p.2.2] t (0, 0))) : W.cell? ⟨b, 0, none⟩ = some (.int .i64 p.1) ∧ W.cell? ⟨b, 1, none⟩ = some (.int .i64 p.2.1) ∧ W.cell? ⟨b, 2, none⟩ = some (.int .i64 p.2.2) := by
  refine ⟨?_, ?_, ?_⟩ <;> (rw [cell_of h]; rfl)
theorem gmade_nil (w : World) : Calls Try.prog 28 #[.pointer none] w fun e w' => e = .returned (.bool false) ∧ w' = w := by
  have q1 := ne24_no
  go_enter Try.func28, Try.ntmps28
  go_wp2
  all_goals go_returns
  all_goals exact ⟨rfl, rfl⟩
theorem gmade_yes (w : World) (g m : Nat) (h0 : w.cell? ⟨g, 0, none⟩ = some (.map (some m))) : Calls Try.prog 28 #[.pointer (some ⟨g, 0, none⟩)] w fun e w' => e = .returned (.bool true) ∧ w' = w := by
  have q1 := ne24_yes g
  have q2 := ne54_yes m
  go_enter Try.func28, Try.ntmps28
  go_wp2
  all_goals go_returns
  all_goals exact ⟨rfl, rfl⟩
theorem row_nil (p : PKey) (w : World) : Calls Try.prog 27 #[.pointer none, pK p] w fun e w' => e = .returned none94 ∧ Below w.heap.size w w' := by
  have hb1 := (Below.refl _ w).alloc (Nat.le_refl _) (.cells #[.int .i64 p.1, .int .i64 p.2.1, .int .i64 p.2.2] 28)
  unfold pK P.hK
  go_enter Try.func27, Try.ntmps27
  go_upto_region 1 with fail
  generalize w.alloc (.cells #[.int .i64 p.1, .int .i64 p.2.1, .int .i64 p.2.2] 28) = W at hb1 ⊢
  have k1 := fun W => gmade_nil W
  go_quiet (first | (go_at_call 28; exact Calls.quiet_of_same (k1 _)))
  go_wp2
  all_goals go_returns
  all_goals exact ⟨rfl, by first | exact Below.drewN hb1 _ | exact Below.drewN (Below.drewN hb1 _) _⟩
theorem row_at (w : World) (g m n s : Nat) (F : PKey → Option Value) (p : PKey) (h0 : w.cell? ⟨g, 0, none⟩ = some (.map (some m))) (hM : P.HM w m n F) (hp : F p = some (.pointer (some ⟨s, 0, none⟩))) :
    Calls Try.prog 27 #[.pointer (some ⟨g, 0, none⟩), pK p] w fun e w' => e = .returned (.iface 76 (.pointer (some ⟨s, 0, none⟩))) ∧ Below w.heap.size w w' := by
  have hb1 := (Below.refl _ w).alloc (Nat.le_refl _) (.cells #[.int .i64 p.1, .int .i64 p.2.1, .int .i64 p.2.2] 28)
  have y1 := heap_alloc_new w (.cells #[.int .i64 p.1, .int .i64 p.2.1, .int .i64 p.2.2] 28)
  have hM1 := hM.alloc (.cells #[.int .i64 p.1, .int .i64 p.2.1, .int .i64 p.2.2] 28)
  have d0 := cell_al h0 (.cells #[.int .i64 p.1, .int .i64 p.2.1, .int .i64 p.2.2] 28)
  have q1 : ∀ w', w'.heap[m]? = (w.alloc (.cells #[.int .i64 p.1, .int .i64 p.2.1, .int .i64 p.2.2] 28)).heap[m]? → (Instr.lookup 54 (.map (some m)) (P.hK p) false).run Try.prog w' = .ok (.pointer (some ⟨s, 0, none⟩)) w' := fun w' hw => by
    have := P.HM.look1 Try.underlying54 (hM1.keep hw) p (zero76 w')
    rw [hp] at this; exact this
  obtain ⟨c0, c1, c2⟩ := pl_cells y1
  unfold P.hK at q1
  have q2 := eq76_yes s
  unfold pK P.hK
  go_enter Try.func27, Try.ntmps27
  go_upto_region 1 with fail
  generalize w.alloc (.cells #[.int .i64 p.1, .int .i64 p.2.1, .int .i64 p.2.2] 28) = W at hb1 d0 q1 c0 c1 c2 ⊢
  have k1 := fun n => gmade_yes (W.drewN n) g m d0
  have q1' := fun n => q1 (W.drewN n) rfl
  have q1 := fun n => q1 (W.drewN n) rfl
  go_quiet (first | (go_at_call 28; exact Calls.quiet_of_same (k1 _)))
  go_upto_region 3 with fail
  go_quiet (fail)
  go_wp2
  all_goals go_returns
  all_goals exact ⟨rfl, by first | exact Below.drewN hb1 _ | exact Below.drewN (Below.drewN hb1 _) _⟩
theorem row_no (w : World) (g m n : Nat) (F : PKey → Option Value) (p : PKey) (h0 : w.cell? ⟨g, 0, none⟩ = some (.map (some m))) (hM : P.HM w m n F) (hp : F p = none) :
    Calls Try.prog 27 #[.pointer (some ⟨g, 0, none⟩), pK p] w fun e w' => e = .returned none94 ∧ Below w.heap.size w w' := by
  have hb1 := (Below.refl _ w).alloc (Nat.le_refl _) (.cells #[.int .i64 p.1, .int .i64 p.2.1, .int .i64 p.2.2] 28)
  have y1 := heap_alloc_new w (.cells #[.int .i64 p.1, .int .i64 p.2.1, .int .i64 p.2.2] 28)
  have hM1 := hM.alloc (.cells #[.int .i64 p.1, .int .i64 p.2.1, .int .i64 p.2.2] 28)
  have d0 := cell_al h0 (.cells #[.int .i64 p.1, .int .i64 p.2.1, .int .i64 p.2.2] 28)
  have q1 : ∀ w', w'.heap[m]? = (w.alloc (.cells #[.int .i64 p.1, .int .i64 p.2.1, .int .i64 p.2.2] 28)).heap[m]? → (Instr.lookup 54 (.map (some m)) (P.hK p) false).run Try.prog w' = .ok (.pointer none) w' := fun w' hw => by
    have := P.HM.look1 Try.underlying54 (hM1.keep hw) p (zero76 w')
    rw [hp] at this; exact this
  obtain ⟨c0, c1, c2⟩ := pl_cells y1
  unfold P.hK at q1
  have q2 := eq76_no
  unfold pK P.hK
  go_enter Try.func27, Try.ntmps27
  go_upto_region 1 with fail
  generalize w.alloc (.cells #[.int .i64 p.1, .int .i64 p.2.1, .int .i64 p.2.2] 28) = W at hb1 d0 q1 c0 c1 c2 ⊢
  have k1 := fun n => gmade_yes (W.drewN n) g m d0
  have q1' := fun n => q1 (W.drewN n) rfl
  have q1 := fun n => q1 (W.drewN n) rfl
  go_quiet (first | (go_at_call 28; exact Calls.quiet_of_same (k1 _)))
  go_wp2
  all_goals go_returns
  all_goals exact ⟨rfl, by first | exact Below.drewN hb1 _ | exact Below.drewN (Below.drewN hb1 _) _⟩
theorem m76 (nm : String) (hn : (Try.prog.info? 76).map (fun i => (i.methods.find? (·.name == nm)).map fun m => (m.path.toList.map fun f => (f.struct, f.index, f.deref), m.func)) = some (some ([(82, 0, true)], none))) (k s t : Nat) (v : Value) (w : World) (h : w.cell? ⟨s, 0, none⟩ = some (.iface t v)) :
    (method (k + 1) 76 (.pointer (some ⟨s, 0, none⟩)) nm).run Try.prog w = (method k t v nm).run Try.prog w := by
  cases hi : Try.prog.info? 76 with
  | none => rw [hi] at hn; cases hn
  | some i =>
    rw [hi] at hn
    simp only [Option.map_some, Option.some.injEq] at hn
    cases hm : i.methods.find? (·.name == nm) with
    | none => rw [hm] at hn; cases hn
    | some m =>
      rw [hm] at hn
      simp only [Option.map_some, Option.some.injEq, Prod.mk.injEq] at hn
      obtain ⟨hp, hf⟩ := hn
      match hpp : m.path.toList, hp with
      | [f], hp =>
        simp only [List.map_cons, List.map_nil, List.cons.injEq, Prod.mk.injEq, and_true] at hp
        obtain ⟨h1, h2, h3⟩ := hp
        have hs : ∀ W, (sizeOf 63).run Try.prog W = .ok 1 W := fun W => by kernel_rfl
        have ha : ∀ W, (isAgg 63).run Try.prog W = .ok false W := fun W => by kernel_rfl
        have hl : (loadVar 63 ⟨s, 0, none⟩).run Try.prog w = .ok (.iface t v) w := by simp [loadVar, ha, h, Result.andThen]
        simp [method, typeInfo, hi, hm, hpp, hf, follow, h1, h2, h3, Result.andThen, Place.get, asAddr, fieldPlace, hs, Addr.add, hl]
      | [], hp => simp at hp
      | _ :: _ :: _, hp => simp at hp
theorem n76_Len : (Try.prog.info? 76).map (fun i => (i.methods.find? (·.name == "Len")).map fun m => (m.path.toList.map fun f => (f.struct, f.index, f.deref), m.func)) = some (some ([(82, 0, true)], none)) := by kernel_rfl
theorem m87_Len (k l : Nat) (w : World) : (method (k + 1) 87 (.agg #[.pointer (some ⟨l, 0, none⟩)]) "Len").run Try.prog w = .ok (78, .pointer (some ⟨l, 0, none⟩)) w := by kernel_rfl
theorem s87_Len (s l : Nat) (w : World) (h : w.cell? ⟨s, 0, none⟩ = some (.iface 87 (.agg #[.pointer (some ⟨l, 0, none⟩)]))) : (method 267 76 (.pointer (some ⟨s, 0, none⟩)) "Len").run Try.prog w = .ok (78, .pointer (some ⟨l, 0, none⟩)) w := (m76 _ n76_Len _ s _ _ w h).trans (m87_Len _ l w)
theorem m91_Len (k l : Nat) (w : World) : (method (k + 1) 91 (.agg #[.pointer (some ⟨l, 0, none⟩)]) "Len").run Try.prog w = .ok (97, .pointer (some ⟨l, 0, none⟩)) w := by kernel_rfl
theorem s91_Len (s l : Nat) (w : World) (h : w.cell? ⟨s, 0, none⟩ = some (.iface 91 (.agg #[.pointer (some ⟨l, 0, none⟩)]))) : (method 267 76 (.pointer (some ⟨s, 0, none⟩)) "Len").run Try.prog w = .ok (97, .pointer (some ⟨l, 0, none⟩)) w := (m76 _ n76_Len _ s _ _ w h).trans (m91_Len _ l w)
theorem n76_At : (Try.prog.info? 76).map (fun i => (i.methods.find? (·.name == "At")).map fun m => (m.path.toList.map fun f => (f.struct, f.index, f.deref), m.func)) = some (some ([(82, 0, true)], none)) := by kernel_rfl
theorem m87_At (k l : Nat) (w : World) : (method (k + 1) 87 (.agg #[.pointer (some ⟨l, 0, none⟩)]) "At").run Try.prog w = .ok (86, .agg #[.pointer (some ⟨l, 0, none⟩)]) w := by kernel_rfl
theorem s87_At (s l : Nat) (w : World) (h : w.cell? ⟨s, 0, none⟩ = some (.iface 87 (.agg #[.pointer (some ⟨l, 0, none⟩)]))) : (method 267 76 (.pointer (some ⟨s, 0, none⟩)) "At").run Try.prog w = .ok (86, .agg #[.pointer (some ⟨l, 0, none⟩)]) w := (m76 _ n76_At _ s _ _ w h).trans (m87_At _ l w)
theorem m91_At (k l : Nat) (w : World) : (method (k + 1) 91 (.agg #[.pointer (some ⟨l, 0, none⟩)]) "At").run Try.prog w = .ok (94, .pointer (some ⟨l, 0, none⟩)) w := by kernel_rfl
theorem s91_At (s l : Nat) (w : World) (h : w.cell? ⟨s, 0, none⟩ = some (.iface 91 (.agg #[.pointer (some ⟨l, 0, none⟩)]))) : (method 267 76 (.pointer (some ⟨s, 0, none⟩)) "At").run Try.prog w = .ok (94, .pointer (some ⟨l, 0, none⟩)) w := (m76 _ n76_At _ s _ _ w h).trans (m91_At _ l w)
theorem n76_Peek : (Try.prog.info? 76).map (fun i => (i.methods.find? (·.name == "Peek")).map fun m => (m.path.toList.map fun f => (f.struct, f.index, f.deref), m.func)) = some (some ([(82, 0, true)], none)) := by kernel_rfl
theorem m87_Peek (k l : Nat) (w : World) : (method (k + 1) 87 (.agg #[.pointer (some ⟨l, 0, none⟩)]) "Peek").run Try.prog w = .ok (79, .pointer (some ⟨l, 0, none⟩)) w := by kernel_rfl
theorem s87_Peek (s l : Nat) (w : World) (h : w.cell? ⟨s, 0, none⟩ = some (.iface 87 (.agg #[.pointer (some ⟨l, 0, none⟩)]))) : (method 267 76 (.pointer (some ⟨s, 0, none⟩)) "Peek").run Try.prog w = .ok (79, .pointer (some ⟨l, 0, none⟩)) w := (m76 _ n76_Peek _ s _ _ w h).trans (m87_Peek _ l w)
theorem m91_Peek (k l : Nat) (w : World) : (method (k + 1) 91 (.agg #[.pointer (some ⟨l, 0, none⟩)]) "Peek").run Try.prog w = .ok (111, .agg #[.pointer (some ⟨l, 0, none⟩)]) w := by kernel_rfl
theorem s91_Peek (s l : Nat) (w : World) (h : w.cell? ⟨s, 0, none⟩ = some (.iface 91 (.agg #[.pointer (some ⟨l, 0, none⟩)]))) : (method 267 76 (.pointer (some ⟨s, 0, none⟩)) "Peek").run Try.prog w = .ok (111, .agg #[.pointer (some ⟨l, 0, none⟩)]) w := (m76 _ n76_Peek _ s _ _ w h).trans (m91_Peek _ l w)
theorem n76_All : (Try.prog.info? 76).map (fun i => (i.methods.find? (·.name == "All")).map fun m => (m.path.toList.map fun f => (f.struct, f.index, f.deref), m.func)) = some (some ([(82, 0, true)], none)) := by kernel_rfl
theorem m87_All (k l : Nat) (w : World) : (method (k + 1) 87 (.agg #[.pointer (some ⟨l, 0, none⟩)]) "All").run Try.prog w = .ok (77, .pointer (some ⟨l, 0, none⟩)) w := by kernel_rfl
theorem s87_All (s l : Nat) (w : World) (h : w.cell? ⟨s, 0, none⟩ = some (.iface 87 (.agg #[.pointer (some ⟨l, 0, none⟩)]))) : (method 267 76 (.pointer (some ⟨s, 0, none⟩)) "All").run Try.prog w = .ok (77, .pointer (some ⟨l, 0, none⟩)) w := (m76 _ n76_All _ s _ _ w h).trans (m87_All _ l w)
theorem m91_All (k l : Nat) (w : World) : (method (k + 1) 91 (.agg #[.pointer (some ⟨l, 0, none⟩)]) "All").run Try.prog w = .ok (93, .pointer (some ⟨l, 0, none⟩)) w := by kernel_rfl
theorem s91_All (s l : Nat) (w : World) (h : w.cell? ⟨s, 0, none⟩ = some (.iface 91 (.agg #[.pointer (some ⟨l, 0, none⟩)]))) : (method 267 76 (.pointer (some ⟨s, 0, none⟩)) "All").run Try.prog w = .ok (93, .pointer (some ⟨l, 0, none⟩)) w := (m76 _ n76_All _ s _ _ w h).trans (m91_All _ l w)
theorem n76_kind : (Try.prog.info? 76).map (fun i => (i.methods.find? (·.name == "warden/graph.kind")).map fun m => (m.path.toList.map fun f => (f.struct, f.index, f.deref), m.func)) = some (some ([(82, 0, true)], none)) := by kernel_rfl
theorem m87_kind (k l : Nat) (w : World) : (method (k + 1) 87 (.agg #[.pointer (some ⟨l, 0, none⟩)]) "warden/graph.kind").run Try.prog w = .ok (88, .agg #[.pointer (some ⟨l, 0, none⟩)]) w := by kernel_rfl
theorem s87_kind (s l : Nat) (w : World) (h : w.cell? ⟨s, 0, none⟩ = some (.iface 87 (.agg #[.pointer (some ⟨l, 0, none⟩)]))) : (method 267 76 (.pointer (some ⟨s, 0, none⟩)) "warden/graph.kind").run Try.prog w = .ok (88, .agg #[.pointer (some ⟨l, 0, none⟩)]) w := (m76 _ n76_kind _ s _ _ w h).trans (m87_kind _ l w)
theorem m91_kind (k l : Nat) (w : World) : (method (k + 1) 91 (.agg #[.pointer (some ⟨l, 0, none⟩)]) "warden/graph.kind").run Try.prog w = .ok (113, .agg #[.pointer (some ⟨l, 0, none⟩)]) w := by kernel_rfl
theorem s91_kind (s l : Nat) (w : World) (h : w.cell? ⟨s, 0, none⟩ = some (.iface 91 (.agg #[.pointer (some ⟨l, 0, none⟩)]))) : (method 267 76 (.pointer (some ⟨s, 0, none⟩)) "warden/graph.kind").run Try.prog w = .ok (113, .agg #[.pointer (some ⟨l, 0, none⟩)]) w := (m76 _ n76_kind _ s _ _ w h).trans (m91_kind _ l w)
theorem n76_leave : (Try.prog.info? 76).map (fun i => (i.methods.find? (·.name == "warden/graph.leave")).map fun m => (m.path.toList.map fun f => (f.struct, f.index, f.deref), m.func)) = some (some ([(82, 0, true)], none)) := by kernel_rfl
theorem m87_leave (k l : Nat) (w : World) : (method (k + 1) 87 (.agg #[.pointer (some ⟨l, 0, none⟩)]) "warden/graph.leave").run Try.prog w = .ok (89, .agg #[.pointer (some ⟨l, 0, none⟩)]) w := by kernel_rfl
theorem s87_leave (s l : Nat) (w : World) (h : w.cell? ⟨s, 0, none⟩ = some (.iface 87 (.agg #[.pointer (some ⟨l, 0, none⟩)]))) : (method 267 76 (.pointer (some ⟨s, 0, none⟩)) "warden/graph.leave").run Try.prog w = .ok (89, .agg #[.pointer (some ⟨l, 0, none⟩)]) w := (m76 _ n76_leave _ s _ _ w h).trans (m87_leave _ l w)
theorem m91_leave (k l : Nat) (w : World) : (method (k + 1) 91 (.agg #[.pointer (some ⟨l, 0, none⟩)]) "warden/graph.leave").run Try.prog w = .ok (114, .agg #[.pointer (some ⟨l, 0, none⟩)]) w := by kernel_rfl
theorem s91_leave (s l : Nat) (w : World) (h : w.cell? ⟨s, 0, none⟩ = some (.iface 91 (.agg #[.pointer (some ⟨l, 0, none⟩)]))) : (method 267 76 (.pointer (some ⟨s, 0, none⟩)) "warden/graph.leave").run Try.prog w = .ok (114, .agg #[.pointer (some ⟨l, 0, none⟩)]) w := (m76 _ n76_leave _ s _ _ w h).trans (m91_leave _ l w)
theorem n76_Push : (Try.prog.info? 76).map (fun i => (i.methods.find? (·.name == "Push")).map fun m => (m.path.toList.map fun f => (f.struct, f.index, f.deref), m.func)) = some (some ([(82, 0, true)], none)) := by kernel_rfl
theorem m87_Push (k l : Nat) (w : World) : (method (k + 1) 87 (.agg #[.pointer (some ⟨l, 0, none⟩)]) "Push").run Try.prog w = .ok (80, .pointer (some ⟨l, 0, none⟩)) w := by kernel_rfl
theorem s87_Push (s l : Nat) (w : World) (h : w.cell? ⟨s, 0, none⟩ = some (.iface 87 (.agg #[.pointer (some ⟨l, 0, none⟩)]))) : (method 267 76 (.pointer (some ⟨s, 0, none⟩)) "Push").run Try.prog w = .ok (80, .pointer (some ⟨l, 0, none⟩)) w := (m76 _ n76_Push _ s _ _ w h).trans (m87_Push _ l w)
theorem m91_Push (k l : Nat) (w : World) : (method (k + 1) 91 (.agg #[.pointer (some ⟨l, 0, none⟩)]) "Push").run Try.prog w = .ok (112, .agg #[.pointer (some ⟨l, 0, none⟩)]) w := by kernel_rfl
theorem s91_Push (s l : Nat) (w : World) (h : w.cell? ⟨s, 0, none⟩ = some (.iface 91 (.agg #[.pointer (some ⟨l, 0, none⟩)]))) : (method 267 76 (.pointer (some ⟨s, 0, none⟩)) "Push").run Try.prog w = .ok (112, .agg #[.pointer (some ⟨l, 0, none⟩)]) w := (m76 _ n76_Push _ s _ _ w h).trans (m91_Push _ l w)
theorem n76_Insert : (Try.prog.info? 76).map (fun i => (i.methods.find? (·.name == "Insert")).map fun m => (m.path.toList.map fun f => (f.struct, f.index, f.deref), m.func)) = some (some ([(82, 0, true)], none)) := by kernel_rfl
theorem m87_Insert (k l : Nat) (w : World) : (method (k + 1) 87 (.agg #[.pointer (some ⟨l, 0, none⟩)]) "Insert").run Try.prog w = .ok (87, .agg #[.pointer (some ⟨l, 0, none⟩)]) w := by kernel_rfl
theorem s87_Insert (s l : Nat) (w : World) (h : w.cell? ⟨s, 0, none⟩ = some (.iface 87 (.agg #[.pointer (some ⟨l, 0, none⟩)]))) : (method 267 76 (.pointer (some ⟨s, 0, none⟩)) "Insert").run Try.prog w = .ok (87, .agg #[.pointer (some ⟨l, 0, none⟩)]) w := (m76 _ n76_Insert _ s _ _ w h).trans (m87_Insert _ l w)
theorem m91_Insert (k l : Nat) (w : World) : (method (k + 1) 91 (.agg #[.pointer (some ⟨l, 0, none⟩)]) "Insert").run Try.prog w = .ok (96, .pointer (some ⟨l, 0, none⟩)) w := by kernel_rfl
theorem s91_Insert (s l : Nat) (w : World) (h : w.cell? ⟨s, 0, none⟩ = some (.iface 91 (.agg #[.pointer (some ⟨l, 0, none⟩)]))) : (method 267 76 (.pointer (some ⟨s, 0, none⟩)) "Insert").run Try.prog w = .ok (96, .pointer (some ⟨l, 0, none⟩)) w := (m76 _ n76_Insert _ s _ _ w h).trans (m91_Insert _ l w)
/-- Small methods. -/
theorem kind_none (w : World) : Calls Try.prog 118 #[.agg #[.pointer none]] w fun e w' => e = .returned (.int .u8 0) ∧ Below w.heap.size w w' := by
  have hb1 := (Below.refl _ w).alloc (Nat.le_refl _) (.cells #[.pointer none] 94)
  go_enter Try.func118, Try.ntmps118
  go_wp2
  all_goals go_returns
  all_goals exact ⟨rfl, hb1⟩
theorem kind_list (l : Nat) (w : World) : Calls Try.prog 88 #[.agg #[.pointer (some ⟨l, 0, none⟩)]] w fun e w' => e = .returned (.int .u8 1) ∧ Below w.heap.size w w' := by
  have hb1 := (Below.refl _ w).alloc (Nat.le_refl _) (.cells #[.pointer (some ⟨l, 0, none⟩)] 87)
  go_enter Try.func88, Try.ntmps88
  go_wp2
  all_goals go_returns
  all_goals exact ⟨rfl, hb1⟩
theorem kind_tree (l : Nat) (w : World) : Calls Try.prog 113 #[.agg #[.pointer (some ⟨l, 0, none⟩)]] w fun e w' => e = .returned (.int .u8 2) ∧ Below w.heap.size w w' := by
  have hb1 := (Below.refl _ w).alloc (Nat.le_refl _) (.cells #[.pointer (some ⟨l, 0, none⟩)] 91)
  go_enter Try.func113, Try.ntmps113
  go_wp2
  all_goals go_returns
  all_goals exact ⟨rfl, hb1⟩
theorem tpeek_any (l : Nat) (q : Bool) (w : World) : Calls Try.prog 111 #[.agg #[.pointer (some ⟨l, 0, none⟩)], .bool q] w fun e w' => e = .returned (.tuple #[.agg #[.int .i64 0, .int .u64 0], .bool false]) ∧ Below w.heap.size w w' := by
  have hb1 := ((Below.refl _ w).alloc (Nat.le_refl _) (.cells #[.pointer (some ⟨l, 0, none⟩)] 91)).alloc (by simp) (.cells #[.int .i64 0, .int .u64 0] 31)
  have y1 := heap_alloc_new (w.alloc (.cells #[.pointer (some ⟨l, 0, none⟩)] 91)) (.cells #[.int .i64 0, .int .u64 0] 31)
  go_enter Try.func111, Try.ntmps111
  go_wp2
  all_goals go_returns
  all_goals exact ⟨rfl, hb1⟩
theorem tpush_any (l : Nat) (h : HKey) (q : Bool) (w : World) : Calls Try.prog 112 #[.agg #[.pointer (some ⟨l, 0, none⟩)], hK2 h, .bool q] w fun e w' => e = .returned (.int .i64 3) ∧ Below w.heap.size w w' := by
  have hb1 := ((Below.refl _ w).alloc (Nat.le_refl _) (.cells #[.pointer (some ⟨l, 0, none⟩)] 91)).alloc (by simp) (.cells #[.int .i64 h.1, .int .u64 h.2] 31)
  unfold hK2
  go_enter Try.func112, Try.ntmps112
  go_wp2
  all_goals go_returns
  all_goals exact ⟨rfl, hb1⟩
theorem lins_any (l : Nat) (i : Int) (h : HKey) (w : World) : Calls Try.prog 87 #[.agg #[.pointer (some ⟨l, 0, none⟩)], .int .i64 i, hK2 h] w fun e w' => e = .returned (.int .i64 3) ∧ Below w.heap.size w w' := by
  have hb1 := ((Below.refl _ w).alloc (Nat.le_refl _) (.cells #[.pointer (some ⟨l, 0, none⟩)] 87)).alloc (by simp) (.cells #[.int .i64 h.1, .int .u64 h.2] 31)
  unfold hK2
  go_enter Try.func87, Try.ntmps87
  go_wp2
  all_goals go_returns
  all_goals exact ⟨rfl, hb1⟩
theorem lleave_any (w : World) (B l : Nat) (K : List HKey) (S : List Nat) (h : Li w B l K S) (k : HKey) :
    Calls Try.prog 89 #[.agg #[.pointer (some ⟨l, 0, none⟩)], hK2 k] w fun e w' => e = .returned (.tuple #[]) ∧ ∃ S', Li w' B l (K.erase k) S' ∧ FL B S S' w w' := by
  have hb1 := ((Below.refl _ w).alloc (Nat.le_refl _) (.cells #[.pointer (some ⟨l, 0, none⟩)] 87)).alloc (by simp) (.cells #[.int .i64 k.1, .int .u64 k.2] 31)
  have k1 := remove_li _ B l K S (h.bel hb1) k
  unfold hK2
  go_enter Try.func89, Try.ntmps89
  go_wp2_with (go_at_call 91; refine k1.mono ?_; rintro e w2 ⟨rfl, S', hL, hF⟩)
  all_goals go_returns
  all_goals exact ⟨rfl, S', hL, (FL.of hb1 h.size).trans hF⟩
theorem tleave_any (w : World) (B l : Nat) (K : List HKey) (S : List Nat) (h : T.Ti w B l K S) (k : HKey) :
    Calls Try.prog 114 #[.agg #[.pointer (some ⟨l, 0, none⟩)], hK2 k] w fun e w' => e = .returned (.tuple #[]) ∧ ∃ S', T.Ti w' B l (K.erase k) S' ∧ FL B S S' w w' := by
  have hb1 := ((Below.refl _ w).alloc (Nat.le_refl _) (.cells #[.pointer (some ⟨l, 0, none⟩)] 91)).alloc (by simp) (.cells #[.int .i64 k.1, .int .u64 k.2] 31)
  have k1 := T.rem_ti _ B l K S (h.bel hb1) k
  have hB : B ≤ w.heap.size := Nat.le_trans (h.lt l h.nob).1 (Nat.le_of_lt (h.lt l h.nob).2)
  unfold hK2
  go_enter Try.func114, Try.ntmps114
  go_wp2_with (go_at_call 115; refine k1.mono ?_; rintro e w2 ⟨rfl, S', hL, hF⟩)
  all_goals go_returns
  all_goals exact ⟨rfl, S', hL, (FL.of hb1 hB).trans hF⟩
theorem lat_nil (i : Int) (w : World) : Calls Try.prog 86 #[.agg #[.pointer none], .int .i64 i] w fun e w' => e = .returned (.tuple #[.agg #[.int .i64 0, .int .u64 0], .bool false]) ∧ Below w.heap.size w w' := by
  have hb1 := ((Below.refl _ w).alloc (Nat.le_refl _) (.cells #[.pointer none] 87)).alloc (by simp) (.cells #[.int .i64 0, .int .u64 0] 31)
  have k1 := fun W => len_nil W
  by_cases h0 : i < 0
  · have d : decide (i < 0) = true := decide_eq_true h0
    go_enter Try.func86, Try.ntmps86
    go_wp2_with (go_at_call 78; refine (k1 _).mono ?_; rintro e w' ⟨rfl, hw⟩; rw [hw]; clear hw)
    all_goals go_returns
    all_goals exact ⟨rfl, hb1⟩
  · have d : decide (i < 0) = false := decide_eq_false h0
    have d2 : decide (0 ≤ i) = true := decide_eq_true (by omega)
    go_enter Try.func86, Try.ntmps86
    go_wp2_with (go_at_call 78; refine (k1 _).mono ?_; rintro e w' ⟨rfl, hw⟩; rw [hw]; clear hw)
    all_goals go_returns
    all_goals exact ⟨rfl, hb1⟩
end Go.Proofs.Ythgpbbpmfpfjnaa
