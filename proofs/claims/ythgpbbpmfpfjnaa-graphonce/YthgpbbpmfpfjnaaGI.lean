/- Towards the statements of package graph (layer 17): fresh rows, and the closures that put. -/
import Derived.Test.YthgpbbpmfpfjnaaGH
namespace Go.Proofs.Ythgpbbpmfpfjnaa
open Go.ChangeShapes Go.WideShapes Go.ChangeAt Go.RowKit
set_option linter.unusedVariables false
set_option linter.unusedSimpArgs false
set_option maxRecDepth 20000
theorem fresh_list (w : World) : Calls Try.prog 22 #[] w fun e w' => ∃ l S, e = .returned (.iface 87 (.agg #[.pointer (some ⟨l, 0, none⟩)])) ∧ Li w' w.heap.size l [] S ∧ Below w.heap.size w w' := by
  have k1 := new_li w
  go_enter Try.func22, Try.ntmps22
  go_wp2_with (go_at_call 32; refine k1.mono ?_; rintro e w1 ⟨l, S, rfl, hL, hb⟩)
  all_goals go_returns
  all_goals exact ⟨l, S, rfl, hL, hb⟩
theorem fresh_tree (w : World) : Calls Try.prog 24 #[] w fun e w' => ∃ l S, e = .returned (.iface 91 (.agg #[.pointer (some ⟨l, 0, none⟩)])) ∧ T.Ti w' w.heap.size l [] S ∧ Below w.heap.size w w' := by
  have k1 := T.new_ti w
  go_enter Try.func24, Try.ntmps24
  go_wp2_with (go_at_call 33; refine k1.mono ?_; rintro e w1 ⟨l, S, rfl, hL, hb⟩)
  all_goals go_returns
  all_goals exact ⟨l, S, rfl, hL, hb⟩
section
variable (w : World) (B l a b : Nat) (k : HKey) (q : Bool) (i : Int) (K : List HKey) (S : List Nat)
theorem pushc_list (hL : Li w B l K S) (a0 : w.cell? ⟨a, 0, none⟩ = some (.int .i64 k.1)) (a1 : w.cell? ⟨a, 1, none⟩ = some (.int .u64 k.2)) (b0 : w.cell? ⟨b, 0, none⟩ = some (.bool q)) :
    Calls Try.prog 23 #[.iface 87 (.agg #[.pointer (some ⟨l, 0, none⟩)]), .pointer (some ⟨a, 0, none⟩), .pointer (some ⟨b, 0, none⟩)] w fun e w' => e = .returned (.int .i64 (if k ∈ K then 7 else 0)) ∧ ∃ S', Li w' B l (pushM K k q) S' ∧ FL B S S' w w' := by
  have k1 := push_li w B l K S hL k q
  generalize (if k ∈ K then (7 : Int) else 0) = r at k1 ⊢
  go_enter Try.func23, Try.ntmps23
  go_wp2_with (go_at_call 80; refine k1.mono ?_; rintro e w1 ⟨rfl, S', h1, h2⟩)
  all_goals go_returns
  all_goals exact ⟨rfl, S', h1, h2⟩
theorem pushc_tree (a0 : w.cell? ⟨a, 0, none⟩ = some (.int .i64 k.1)) (a1 : w.cell? ⟨a, 1, none⟩ = some (.int .u64 k.2)) (b0 : w.cell? ⟨b, 0, none⟩ = some (.bool q)) :
    Calls Try.prog 23 #[.iface 91 (.agg #[.pointer (some ⟨l, 0, none⟩)]), .pointer (some ⟨a, 0, none⟩), .pointer (some ⟨b, 0, none⟩)] w fun e w' => e = .returned (.int .i64 3) ∧ Below w.heap.size w w' := by
  have k1 := tpush_any l k q w
  unfold hK2 at k1
  go_enter Try.func23, Try.ntmps23
  go_wp2_with (go_at_call 112; refine k1.mono ?_; rintro e w1 ⟨rfl, h2⟩)
  all_goals go_returns
  all_goals exact ⟨rfl, h2⟩
theorem insc_tree (hL : T.Ti w B l K S) (hl : K.length + 1 ≤ 2000) (a0 : w.cell? ⟨a, 0, none⟩ = some (.int .i64 i)) (b0 : w.cell? ⟨b, 0, none⟩ = some (.int .i64 k.1)) (b1 : w.cell? ⟨b, 1, none⟩ = some (.int .u64 k.2)) :
    Calls Try.prog 25 #[.iface 91 (.agg #[.pointer (some ⟨l, 0, none⟩)]), .pointer (some ⟨a, 0, none⟩), .pointer (some ⟨b, 0, none⟩)] w fun e w' => e = .returned (.int .i64 (T.insR K i k)) ∧ ∃ S', T.Ti w' B l (T.insK K i k) S' ∧ FL B S S' w w' := by
  have k1 := T.ins_ti w B l K S hL hl i k
  generalize T.insR K i k = r at k1 ⊢
  go_enter Try.func25, Try.ntmps25
  go_wp2_with (go_at_call 96; refine k1.mono ?_; rintro e w1 ⟨rfl, S', h1, h2⟩)
  all_goals go_returns
  all_goals exact ⟨rfl, S', h1, h2⟩
theorem insc_list (a0 : w.cell? ⟨a, 0, none⟩ = some (.int .i64 i)) (b0 : w.cell? ⟨b, 0, none⟩ = some (.int .i64 k.1)) (b1 : w.cell? ⟨b, 1, none⟩ = some (.int .u64 k.2)) :
    Calls Try.prog 25 #[.iface 87 (.agg #[.pointer (some ⟨l, 0, none⟩)]), .pointer (some ⟨a, 0, none⟩), .pointer (some ⟨b, 0, none⟩)] w fun e w' => e = .returned (.int .i64 3) ∧ Below w.heap.size w w' := by
  have k1 := lins_any l i k w
  unfold hK2 at k1
  go_enter Try.func25, Try.ntmps25
  go_wp2_with (go_at_call 87; refine k1.mono ?_; rintro e w1 ⟨rfl, h2⟩)
  all_goals go_returns
  all_goals exact ⟨rfl, h2⟩
end
end Go.Proofs.Ythgpbbpmfpfjnaa
