/- Towards the statements of package graph (layer 17): Places. -/
import Derived.Test.YthgpbbpmfpfjnaaPP
import Derived.Test.YthgpbbpmfpfjnaaGS
namespace Go.Proofs.Ythgpbbpmfpfjnaa
open Go.ChangeShapes Go.WideShapes Go.ChangeAt Go.RowKit
set_option linter.unusedVariables false
set_option linter.unusedSimpArgs false
set_option maxRecDepth 20000
theorem gplaces_nil (w : World) : Calls Try.prog 17 #[.pointer none] w fun e w' => e = .returned (.slice none 0 0) ∧ w' = w := by
  have k1 := fun W => gmade_nil W
  go_enter Try.func17, Try.ntmps17
  go_wp2_with (go_at_call 28; refine (k1 _).mono ?_; rintro e w' ⟨rfl, hw⟩; rw [hw]; clear hw)
  all_goals go_returns
  all_goals exact ⟨rfl, rfl⟩
/-- A graph's places, in their order. -/
structure Pls (Y : Ys) (ts : List PKey) : Prop where
  nd : ts.Nodup
  mem : ∀ p, p ∈ ts ↔ (Y p).isSome = true
  up : ts.Pairwise (fun a b => Go.Proofs.ltOf cmpP b a = false)
theorem gplaces_any (w : World) (B g N : Nat) (Y : Ys) (A : Nat → Prop) (h : Gi w B g N Y A) (hN : N ≤ 1000000) :
    Calls Try.prog 17 #[.pointer (some ⟨g, 0, none⟩)] w fun e w' => ∃ v ts, e = .returned v ∧ Pls Y ts ∧ ts.length ≤ N ∧ w'.ownsRow (w.heap.size + 1) 28 3 v ts.length (pCells ts) ∧ Below w.heap.size w w' := by
  obtain ⟨m1, m2, Z, h, rfl, rfl⟩ := h
  obtain ⟨F, hM, hF⟩ := h.spots
  have h0 : w.cell? ⟨g, 0, none⟩ = some (.map (some m1)) := by rw [cell_of h.cells]; rfl
  have k1 := gmade_yes w g m1 h0
  have k2 := P.keys_any (some m1) w
  have eg : ∀ args w, (callFunc 36 args).run Try.prog w = .ok (.enter 36 args) w := enters_of Try.func36 (by kernel_rfl) rfl
  have hs := P.keys_gives (n := N) (F := F) (m := m1) (w.alloc (.cells #[.map (some m1)] 54)) w.heap.size (by simp) (by rw [cell_of (heap_alloc_new w _)]; rfl) (hM.alloc _)
  have k3 := sorted_any (w.alloc (.cells #[.map (some m1)] 54)) 36 #[.pointer (some ⟨w.heap.size, 0, none⟩)] eg _ N hN (fun ss h => h.2.2) hs
  have e1 : (w.alloc (.cells #[.map (some m1)] 54)).heap.size = w.heap.size + 1 := by simp
  rw [e1] at k3
  have hB := (Below.refl w.heap.size w).alloc (Nat.le_refl _) (.cells #[.map (some m1)] 54)
  clear hs eg
  go_enter Try.func17, Try.ntmps17
  go_wp2_with (first
    | (go_at_call 28; refine k1.mono ?_; rintro e w' ⟨rfl, hw⟩; rw [hw]; clear hw)
    | (go_at_call 30; refine k2.mono ?_; rintro e w' ⟨rfl, hw⟩; rw [hw]; clear hw)
    | (go_at_call 29; refine k3.mono ?_; rintro e w' ⟨v, ss, ts, rfl, ⟨a1, a2, a3⟩, b1, b2, b3, b4⟩))
  all_goals go_returns
  refine ⟨v, ts, rfl, ⟨b1.nodup_iff.2 a1, fun p => ?_, b2⟩, by rw [b1.length_eq]; exact a3, b3, hB.trans (b4.mono (by omega))⟩
  rw [b1.mem_iff, a2]
  constructor
  · intro q
    obtain ⟨u, hu⟩ := Option.isSome_iff_exists.1 q
    obtain ⟨x, hx, _⟩ := (hF p u).1 hu
    simp [yOf, hx]
  · intro q
    cases hz : Z p with
    | none => simp [yOf, hz] at q
    | some x => rw [(hF p _).2 ⟨x, hz, rfl⟩]; rfl
end Go.Proofs.Ythgpbbpmfpfjnaa
