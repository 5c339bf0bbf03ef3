/- Further theorems of the layers below. -/
import Derived.Test.YtcbcijibgpaipabGreatCZ
import Derived.WalkKit
import Derived.WalkSpells
import Derived.ProofKit
import Derived.OpenShut
import Derived.BigQuiet
import Derived.Deep.QuietTactic
import Derived.Deep.RegionHeld3
import Derived.Deep.RegionWith
import Derived.Handy
import Derived.Laws.ShiftsVarLaws
import Derived.Laws.BitsAllLaws
import Derived.Laws.EntriesVeiled
section
namespace Go.Proofs.YtcbcijibgpaipabGreat
open Go.ChangeShapes Go.WideShapes Go.ChangeAt Go.RowKit
set_option linter.unusedVariables false

section
variable {w w' : World} {b : Nat} {x y : Value} {t : TypeId}
end
theorem by_of {W w' : World} {p : GrBy W} (h : Gr p.to w') : ∃ q : GrBy W, w' = q.to := ⟨⟨w', p.gr.trans h⟩, rfl⟩

end Go.Proofs.YtcbcijibgpaipabGreat
end
section
namespace Go.Proofs.YtcbcijibgpaipabGreat.Tn
open Go.ChangeShapes Go.WideShapes Go.ChangeAt Go.RowKit
set_option linter.unusedVariables false
set_option maxRecDepth 20000

theorem by_of {W w' : World} {p : GrBy W} (h : Gr p.to w') : ∃ q : GrBy W, w' = q.to := ⟨⟨w', p.gr.trans h⟩, rfl⟩

end Go.Proofs.YtcbcijibgpaipabGreat.Tn
end
section
namespace Go.Proofs.YtcbcijibgpaipabGreat
open Go.ChangeShapes Go.WideShapes Go.ChangeAt Go.RowKit
open Tn (iv)
set_option linter.unusedVariables false

def inM (a b : Bd) : Bool := nnB a || (a.tm &&& ~~~b.tm == 0#64 && a.tv &&& ~~~b.tm == b.tv) && (decide (a.uh < a.ul) || inR a.ul a.uh b.ul b.uh) && inR a.sl a.sh b.sl b.sh && (decide (a.wh < a.wl) || inR a.wl a.wh b.wl b.wh) && inR a.vl a.vh b.vl b.vh

end Go.Proofs.YtcbcijibgpaipabGreat
end
section
namespace Go.Proofs.YtcbcijibgpaipabGreat
open Go.ChangeShapes Go.WideShapes Go.ChangeAt Go.RowKit
open Tn (iv)
set_option linter.unusedVariables false
set_option maxRecDepth 20000

theorem tin_q (av am bv bm : BitVec 64) (q : Bool) (h : (am &&& ~~~bm == 0#64 && av &&& ~~~bm == bv) = q) (w : World) : Calls Tryz.prog 38 #[.agg #[.int .u64 (iv av), .int .u64 (iv am)], .agg #[.int .u64 (iv bv), .int .u64 (iv bm)]] w fun e w' => e = .returned (.bool q) ∧ Gr w w' := h ▸ cv (Tn.in_any av am bv bm w)
set_option maxHeartbeats 4000000 in
theorem in_all (atv atm : BitVec 64) (aul auh asl ash awl awh avl avh : Int) (btv btm : BitVec 64) (bul buh bsl bsh bwl bwh bvl bvh : Int) (w : World) : Calls Tryz.prog 12 #[.agg #[.int .u64 (iv atv), .int .u64 (iv atm), .int .u64 aul, .int .u64 auh, .int .i64 asl, .int .i64 ash, .int .u64 awl, .int .u64 awh, .int .i64 avl, .int .i64 avh], .agg #[.int .u64 (iv btv), .int .u64 (iv btm), .int .u64 bul, .int .u64 buh, .int .i64 bsl, .int .i64 bsh, .int .u64 bwl, .int .u64 bwh, .int .i64 bvl, .int .i64 bvh]] w fun e w' => e = .returned (.bool (nn aul auh asl ash awl awh avl avh || ((atm &&& ~~~btm == 0#64 && atv &&& ~~~btm == btv) && (decide (auh < aul) || ((decide (bul ≤ aul) && decide (aul ≤ buh)) && (decide (bul ≤ auh) && decide (auh ≤ buh)))) && ((decide (bsl ≤ asl) && decide (asl ≤ bsh)) && (decide (bsl ≤ ash) && decide (ash ≤ bsh))) && (decide (awh < awl) || ((decide (bwl ≤ awl) && decide (awl ≤ bwh)) && (decide (bwl ≤ awh) && decide (awh ≤ bwh)))) && ((decide (bvl ≤ avl) && decide (avl ≤ bvh)) && (decide (bvl ≤ avh) && decide (avh ≤ bvh)))))) ∧ Gr w w' := by
  have HA : Hid (AtA ((w.alloc (.cells #[.int .u64 (iv atv), .int .u64 (iv atm), .int .u64 aul, .int .u64 auh, .int .i64 asl, .int .i64 ash, .int .u64 awl, .int .u64 awh, .int .i64 avl, .int .i64 avh] 33)).alloc (.cells #[.int .u64 (iv btv), .int .u64 (iv btm), .int .u64 bul, .int .u64 buh, .int .i64 bsl, .int .i64 bsh, .int .u64 bwl, .int .u64 bwh, .int .i64 bvl, .int .i64 bvh] 33)) w.heap.size #[.int .u64 (iv atv), .int .u64 (iv atm), .int .u64 aul, .int .u64 auh, .int .i64 asl, .int .i64 ash, .int .u64 awl, .int .u64 awh, .int .i64 avl, .int .i64 avh] 33) := (AtA.newb _ rfl _ _).alloc _
  have HB : Hid (AtA ((w.alloc (.cells #[.int .u64 (iv atv), .int .u64 (iv atm), .int .u64 aul, .int .u64 auh, .int .i64 asl, .int .i64 ash, .int .u64 awl, .int .u64 awh, .int .i64 avl, .int .i64 avh] 33)).alloc (.cells #[.int .u64 (iv btv), .int .u64 (iv btm), .int .u64 bul, .int .u64 buh, .int .i64 bsl, .int .i64 bsh, .int .u64 bwl, .int .u64 bwh, .int .i64 bvl, .int .i64 bvh] 33)) (w.heap.size + 1) #[.int .u64 (iv btv), .int .u64 (iv btm), .int .u64 bul, .int .u64 buh, .int .i64 bsl, .int .i64 bsh, .int .u64 bwl, .int .u64 bwh, .int .i64 bvl, .int .i64 bvh] 33) := AtA.newb _ (by simp) _ _
  have p0 : ∀ p : GrBy ((w.alloc (.cells #[.int .u64 (iv atv), .int .u64 (iv atm), .int .u64 aul, .int .u64 auh, .int .i64 asl, .int .i64 ash, .int .u64 awl, .int .u64 awh, .int .i64 avl, .int .i64 avh] 33)).alloc (.cells #[.int .u64 (iv btv), .int .u64 (iv btm), .int .u64 bul, .int .u64 buh, .int .i64 bsl, .int .i64 bsh, .int .u64 bwl, .int .u64 bwh, .int .i64 bvl, .int .i64 bvh] 33)), p.to.cell? ⟨w.heap.size, 0, none⟩ = some (.int .u64 (iv atv)) := fun p => by have h := (HA.out.gr p.gr).cell 0; simpa only [List.getElem?_toArray, List.getElem?_cons_zero, List.getElem?_cons_succ] using h
  have r0 : ∀ p : GrBy ((w.alloc (.cells #[.int .u64 (iv atv), .int .u64 (iv atm), .int .u64 aul, .int .u64 auh, .int .i64 asl, .int .i64 ash, .int .u64 awl, .int .u64 awh, .int .i64 avl, .int .i64 avh] 33)).alloc (.cells #[.int .u64 (iv btv), .int .u64 (iv btm), .int .u64 bul, .int .u64 buh, .int .i64 bsl, .int .i64 bsh, .int .u64 bwl, .int .u64 bwh, .int .i64 bvl, .int .i64 bvh] 33)), p.to.cell? ⟨w.heap.size + 1, 0, none⟩ = some (.int .u64 (iv btv)) := fun p => by have h := (HB.out.gr p.gr).cell 0; simpa only [List.getElem?_toArray, List.getElem?_cons_zero, List.getElem?_cons_succ] using h
  have p1 : ∀ p : GrBy ((w.alloc (.cells #[.int .u64 (iv atv), .int .u64 (iv atm), .int .u64 aul, .int .u64 auh, .int .i64 asl, .int .i64 ash, .int .u64 awl, .int .u64 awh, .int .i64 avl, .int .i64 avh] 33)).alloc (.cells #[.int .u64 (iv btv), .int .u64 (iv btm), .int .u64 bul, .int .u64 buh, .int .i64 bsl, .int .i64 bsh, .int .u64 bwl, .int .u64 bwh, .int .i64 bvl, .int .i64 bvh] 33)), p.to.cell? ⟨w.heap.size, 1, none⟩ = some (.int .u64 (iv atm)) := fun p => by have h := (HA.out.gr p.gr).cell 1; simpa only [List.getElem?_toArray, List.getElem?_cons_zero, List.getElem?_cons_succ] using h
  have r1 : ∀ p : GrBy ((w.alloc (.cells #[.int .u64 (iv atv), .int .u64 (iv atm), .int .u64 aul, .int .u64 auh, .int .i64 asl, .int .i64 ash, .int .u64 awl, .int .u64 awh, .int .i64 avl, .int .i64 avh] 33)).alloc (.cells #[.int .u64 (iv btv), .int .u64 (iv btm), .int .u64 bul, .int .u64 buh, .int .i64 bsl, .int .i64 bsh, .int .u64 bwl, .int .u64 bwh, .int .i64 bvl, .int .i64 bvh] 33)), p.to.cell? ⟨w.heap.size + 1, 1, none⟩ = some (.int .u64 (iv btm)) := fun p => by have h := (HB.out.gr p.gr).cell 1; simpa only [List.getElem?_toArray, List.getElem?_cons_zero, List.getElem?_cons_succ] using h
  have p2 : ∀ p : GrBy ((w.alloc (.cells #[.int .u64 (iv atv), .int .u64 (iv atm), .int .u64 aul, .int .u64 auh, .int .i64 asl, .int .i64 ash, .int .u64 awl, .int .u64 awh, .int .i64 avl, .int .i64 avh] 33)).alloc (.cells #[.int .u64 (iv btv), .int .u64 (iv btm), .int .u64 bul, .int .u64 buh, .int .i64 bsl, .int .i64 bsh, .int .u64 bwl, .int .u64 bwh, .int .i64 bvl, .int .i64 bvh] 33)), p.to.cell? ⟨w.heap.size, 2, none⟩ = some (.int .u64 aul) := fun p => by have h := (HA.out.gr p.gr).cell 2; simpa only [List.getElem?_toArray, List.getElem?_cons_zero, List.getElem?_cons_succ] using h
  have r2 : ∀ p : GrBy ((w.alloc (.cells #[.int .u64 (iv atv), .int .u64 (iv atm), .int .u64 aul, .int .u64 auh, .int .i64 asl, .int .i64 ash, .int .u64 awl, .int .u64 awh, .int .i64 avl, .int .i64 avh] 33)).alloc (.cells #[.int .u64 (iv btv), .int .u64 (iv btm), .int .u64 bul, .int .u64 buh, .int .i64 bsl, .int .i64 bsh, .int .u64 bwl, .int .u64 bwh, .int .i64 bvl, .int .i64 bvh] 33)), p.to.cell? ⟨w.heap.size + 1, 2, none⟩ = some (.int .u64 bul) := fun p => by have h := (HB.out.gr p.gr).cell 2; simpa only [List.getElem?_toArray, List.getElem?_cons_zero, List.getElem?_cons_succ] using h
  have p3 : ∀ p : GrBy ((w.alloc (.cells #[.int .u64 (iv atv), .int .u64 (iv atm), .int .u64 aul, .int .u64 auh, .int .i64 asl, .int .i64 ash, .int .u64 awl, .int .u64 awh, .int .i64 avl, .int .i64 avh] 33)).alloc (.cells #[.int .u64 (iv btv), .int .u64 (iv btm), .int .u64 bul, .int .u64 buh, .int .i64 bsl, .int .i64 bsh, .int .u64 bwl, .int .u64 bwh, .int .i64 bvl, .int .i64 bvh] 33)), p.to.cell? ⟨w.heap.size, 3, none⟩ = some (.int .u64 auh) := fun p => by have h := (HA.out.gr p.gr).cell 3; simpa only [List.getElem?_toArray, List.getElem?_cons_zero, List.getElem?_cons_succ] using h
  have r3 : ∀ p : GrBy ((w.alloc (.cells #[.int .u64 (iv atv), .int .u64 (iv atm), .int .u64 aul, .int .u64 auh, .int .i64 asl, .int .i64 ash, .int .u64 awl, .int .u64 awh, .int .i64 avl, .int .i64 avh] 33)).alloc (.cells #[.int .u64 (iv btv), .int .u64 (iv btm), .int .u64 bul, .int .u64 buh, .int .i64 bsl, .int .i64 bsh, .int .u64 bwl, .int .u64 bwh, .int .i64 bvl, .int .i64 bvh] 33)), p.to.cell? ⟨w.heap.size + 1, 3, none⟩ = some (.int .u64 buh) := fun p => by have h := (HB.out.gr p.gr).cell 3; simpa only [List.getElem?_toArray, List.getElem?_cons_zero, List.getElem?_cons_succ] using h
  have p4 : ∀ p : GrBy ((w.alloc (.cells #[.int .u64 (iv atv), .int .u64 (iv atm), .int .u64 aul, .int .u64 auh, .int .i64 asl, .int .i64 ash, .int .u64 awl, .int .u64 awh, .int .i64 avl, .int .i64 avh] 33)).alloc (.cells #[.int .u64 (iv btv), .int .u64 (iv btm), .int .u64 bul, .int .u64 buh, .int .i64 bsl, .int .i64 bsh, .int .u64 bwl, .int .u64 bwh, .int .i64 bvl, .int .i64 bvh] 33)), p.to.cell? ⟨w.heap.size, 4, none⟩ = some (.int .i64 asl) := fun p => by have h := (HA.out.gr p.gr).cell 4; simpa only [List.getElem?_toArray, List.getElem?_cons_zero, List.getElem?_cons_succ] using h
  have r4 : ∀ p : GrBy ((w.alloc (.cells #[.int .u64 (iv atv), .int .u64 (iv atm), .int .u64 aul, .int .u64 auh, .int .i64 asl, .int .i64 ash, .int .u64 awl, .int .u64 awh, .int .i64 avl, .int .i64 avh] 33)).alloc (.cells #[.int .u64 (iv btv), .int .u64 (iv btm), .int .u64 bul, .int .u64 buh, .int .i64 bsl, .int .i64 bsh, .int .u64 bwl, .int .u64 bwh, .int .i64 bvl, .int .i64 bvh] 33)), p.to.cell? ⟨w.heap.size + 1, 4, none⟩ = some (.int .i64 bsl) := fun p => by have h := (HB.out.gr p.gr).cell 4; simpa only [List.getElem?_toArray, List.getElem?_cons_zero, List.getElem?_cons_succ] using h
  have p5 : ∀ p : GrBy ((w.alloc (.cells #[.int .u64 (iv atv), .int .u64 (iv atm), .int .u64 aul, .int .u64 auh, .int .i64 asl, .int .i64 ash, .int .u64 awl, .int .u64 awh, .int .i64 avl, .int .i64 avh] 33)).alloc (.cells #[.int .u64 (iv btv), .int .u64 (iv btm), .int .u64 bul, .int .u64 buh, .int .i64 bsl, .int .i64 bsh, .int .u64 bwl, .int .u64 bwh, .int .i64 bvl, .int .i64 bvh] 33)), p.to.cell? ⟨w.heap.size, 5, none⟩ = some (.int .i64 ash) := fun p => by have h := (HA.out.gr p.gr).cell 5; simpa only [List.getElem?_toArray, List.getElem?_cons_zero, List.getElem?_cons_succ] using h
  have r5 : ∀ p : GrBy ((w.alloc (.cells #[.int .u64 (iv atv), .int .u64 (iv atm), .int .u64 aul, .int .u64 auh, .int .i64 asl, .int .i64 ash, .int .u64 awl, .int .u64 awh, .int .i64 avl, .int .i64 avh] 33)).alloc (.cells #[.int .u64 (iv btv), .int .u64 (iv btm), .int .u64 bul, .int .u64 buh, .int .i64 bsl, .int .i64 bsh, .int .u64 bwl, .int .u64 bwh, .int .i64 bvl, .int .i64 bvh] 33)), p.to.cell? ⟨w.heap.size + 1, 5, none⟩ = some (.int .i64 bsh) := fun p => by have h := (HB.out.gr p.gr).cell 5; simpa only [List.getElem?_toArray, List.getElem?_cons_zero, List.getElem?_cons_succ] using h
  have p6 : ∀ p : GrBy ((w.alloc (.cells #[.int .u64 (iv atv), .int .u64 (iv atm), .int .u64 aul, .int .u64 auh, .int .i64 asl, .int .i64 ash, .int .u64 awl, .int .u64 awh, .int .i64 avl, .int .i64 avh] 33)).alloc (.cells #[.int .u64 (iv btv), .int .u64 (iv btm), .int .u64 bul, .int .u64 buh, .int .i64 bsl, .int .i64 bsh, .int .u64 bwl, .int .u64 bwh, .int .i64 bvl, .int .i64 bvh] 33)), p.to.cell? ⟨w.heap.size, 6, none⟩ = some (.int .u64 awl) := fun p => by have h := (HA.out.gr p.gr).cell 6; simpa only [List.getElem?_toArray, List.getElem?_cons_zero, List.getElem?_cons_succ] using h
  have r6 : ∀ p : GrBy ((w.alloc (.cells #[.int .u64 (iv atv), .int .u64 (iv atm), .int .u64 aul, .int .u64 auh, .int .i64 asl, .int .i64 ash, .int .u64 awl, .int .u64 awh, .int .i64 avl, .int .i64 avh] 33)).alloc (.cells #[.int .u64 (iv btv), .int .u64 (iv btm), .int .u64 bul, .int .u64 buh, .int .i64 bsl, .int .i64 bsh, .int .u64 bwl, .int .u64 bwh, .int .i64 bvl, .int .i64 bvh] 33)), p.to.cell? ⟨w.heap.size + 1, 6, none⟩ = some (.int .u64 bwl) := fun p => by have h := (HB.out.gr p.gr).cell 6; simpa only [List.getElem?_toArray, List.getElem?_cons_zero, List.getElem?_cons_succ] using h
  have p7 : ∀ p : GrBy ((w.alloc (.cells #[.int .u64 (iv atv), .int .u64 (iv atm), .int .u64 aul, .int .u64 auh, .int .i64 asl, .int .i64 ash, .int .u64 awl, .int .u64 awh, .int .i64 avl, .int .i64 avh] 33)).alloc (.cells #[.int .u64 (iv btv), .int .u64 (iv btm), .int .u64 bul, .int .u64 buh, .int .i64 bsl, .int .i64 bsh, .int .u64 bwl, .int .u64 bwh, .int .i64 bvl, .int .i64 bvh] 33)), p.to.cell? ⟨w.heap.size, 7, none⟩ = some (.int .u64 awh) := fun p => by have h := (HA.out.gr p.gr).cell 7; simpa only [List.getElem?_toArray, List.getElem?_cons_zero, List.getElem?_cons_succ] using h
  have r7 : ∀ p : GrBy ((w.alloc (.cells #[.int .u64 (iv atv), .int .u64 (iv atm), .int .u64 aul, .int .u64 auh, .int .i64 asl, .int .i64 ash, .int .u64 awl, .int .u64 awh, .int .i64 avl, .int .i64 avh] 33)).alloc (.cells #[.int .u64 (iv btv), .int .u64 (iv btm), .int .u64 bul, .int .u64 buh, .int .i64 bsl, .int .i64 bsh, .int .u64 bwl, .int .u64 bwh, .int .i64 bvl, .int .i64 bvh] 33)), p.to.cell? ⟨w.heap.size + 1, 7, none⟩ = some (.int .u64 bwh) := fun p => by have h := (HB.out.gr p.gr).cell 7; simpa only [List.getElem?_toArray, List.getElem?_cons_zero, List.getElem?_cons_succ] using h
  have p8 : ∀ p : GrBy ((w.alloc (.cells #[.int .u64 (iv atv), .int .u64 (iv atm), .int .u64 aul, .int .u64 auh, .int .i64 asl, .int .i64 ash, .int .u64 awl, .int .u64 awh, .int .i64 avl, .int .i64 avh] 33)).alloc (.cells #[.int .u64 (iv btv), .int .u64 (iv btm), .int .u64 bul, .int .u64 buh, .int .i64 bsl, .int .i64 bsh, .int .u64 bwl, .int .u64 bwh, .int .i64 bvl, .int .i64 bvh] 33)), p.to.cell? ⟨w.heap.size, 8, none⟩ = some (.int .i64 avl) := fun p => by have h := (HA.out.gr p.gr).cell 8; simpa only [List.getElem?_toArray, List.getElem?_cons_zero, List.getElem?_cons_succ] using h
  have r8 : ∀ p : GrBy ((w.alloc (.cells #[.int .u64 (iv atv), .int .u64 (iv atm), .int .u64 aul, .int .u64 auh, .int .i64 asl, .int .i64 ash, .int .u64 awl, .int .u64 awh, .int .i64 avl, .int .i64 avh] 33)).alloc (.cells #[.int .u64 (iv btv), .int .u64 (iv btm), .int .u64 bul, .int .u64 buh, .int .i64 bsl, .int .i64 bsh, .int .u64 bwl, .int .u64 bwh, .int .i64 bvl, .int .i64 bvh] 33)), p.to.cell? ⟨w.heap.size + 1, 8, none⟩ = some (.int .i64 bvl) := fun p => by have h := (HB.out.gr p.gr).cell 8; simpa only [List.getElem?_toArray, List.getElem?_cons_zero, List.getElem?_cons_succ] using h
  have p9 : ∀ p : GrBy ((w.alloc (.cells #[.int .u64 (iv atv), .int .u64 (iv atm), .int .u64 aul, .int .u64 auh, .int .i64 asl, .int .i64 ash, .int .u64 awl, .int .u64 awh, .int .i64 avl, .int .i64 avh] 33)).alloc (.cells #[.int .u64 (iv btv), .int .u64 (iv btm), .int .u64 bul, .int .u64 buh, .int .i64 bsl, .int .i64 bsh, .int .u64 bwl, .int .u64 bwh, .int .i64 bvl, .int .i64 bvh] 33)), p.to.cell? ⟨w.heap.size, 9, none⟩ = some (.int .i64 avh) := fun p => by have h := (HA.out.gr p.gr).cell 9; simpa only [List.getElem?_toArray, List.getElem?_cons_zero, List.getElem?_cons_succ] using h
  have r9 : ∀ p : GrBy ((w.alloc (.cells #[.int .u64 (iv atv), .int .u64 (iv atm), .int .u64 aul, .int .u64 auh, .int .i64 asl, .int .i64 ash, .int .u64 awl, .int .u64 awh, .int .i64 avl, .int .i64 avh] 33)).alloc (.cells #[.int .u64 (iv btv), .int .u64 (iv btm), .int .u64 bul, .int .u64 buh, .int .i64 bsl, .int .i64 bsh, .int .u64 bwl, .int .u64 bwh, .int .i64 bvl, .int .i64 bvh] 33)), p.to.cell? ⟨w.heap.size + 1, 9, none⟩ = some (.int .i64 bvh) := fun p => by have h := (HB.out.gr p.gr).cell 9; simpa only [List.getElem?_toArray, List.getElem?_cons_zero, List.getElem?_cons_succ] using h
  cases b0 : nn aul auh asl ash awl awh avl avh
  · skip
    cases b1 : (atm &&& ~~~btm == 0#64 && atv &&& ~~~btm == btv)
    · go_enter Tryz.func12, Tryz.ntmps12
      go_wp2_with (first
        | (go_at_call 15; refine (None_q _ _ _ _ _ _ _ _ _ _ _ (by with_reducible assumption) _).mono ?_; rintro e w' ⟨rfl, hg⟩; obtain ⟨q0, rfl⟩ : ∃ q : GrBy ((w.alloc (.cells #[.int .u64 (iv atv), .int .u64 (iv atm), .int .u64 aul, .int .u64 auh, .int .i64 asl, .int .i64 ash, .int .u64 awl, .int .u64 awh, .int .i64 avl, .int .i64 avh] 33)).alloc (.cells #[.int .u64 (iv btv), .int .u64 (iv btm), .int .u64 bul, .int .u64 buh, .int .i64 bsl, .int .i64 bsh, .int .u64 bwl, .int .u64 bwh, .int .i64 bvl, .int .i64 bvh] 33)), w' = q.to := ⟨⟨w', hg⟩, rfl⟩; clear hg)
        | (go_at_call 38; refine (tin_q _ _ _ _ _ (by with_reducible assumption) _).mono ?_; rintro e w' ⟨rfl, hg⟩; obtain ⟨q', rfl⟩ := by_of hg; clear hg)
        | (go_at_call 17; refine (spanIn_q _ _ _ _ _ (by with_reducible assumption) _).mono ?_; rintro e w' ⟨rfl, hg⟩; obtain ⟨q', rfl⟩ := by_of hg; clear hg)
        | (go_at_call 19; refine (within_q _ _ _ _ _ (by with_reducible assumption) _).mono ?_; rintro e w' ⟨rfl, hg⟩; obtain ⟨q', rfl⟩ := by_of hg; clear hg))
      go_ret
      exact ⟨by simp, Gr.trans ⟨by go_grown, by go_grown⟩ (GrBy.gr _)⟩
    · cases b2 : (decide (auh < aul) || ((decide (bul ≤ aul) && decide (aul ≤ buh)) && (decide (bul ≤ auh) && decide (auh ≤ buh))))
      · go_enter Tryz.func12, Tryz.ntmps12
        go_wp2_with (first
          | (go_at_call 15; refine (None_q _ _ _ _ _ _ _ _ _ _ _ (by with_reducible assumption) _).mono ?_; rintro e w' ⟨rfl, hg⟩; obtain ⟨q0, rfl⟩ : ∃ q : GrBy ((w.alloc (.cells #[.int .u64 (iv atv), .int .u64 (iv atm), .int .u64 aul, .int .u64 auh, .int .i64 asl, .int .i64 ash, .int .u64 awl, .int .u64 awh, .int .i64 avl, .int .i64 avh] 33)).alloc (.cells #[.int .u64 (iv btv), .int .u64 (iv btm), .int .u64 bul, .int .u64 buh, .int .i64 bsl, .int .i64 bsh, .int .u64 bwl, .int .u64 bwh, .int .i64 bvl, .int .i64 bvh] 33)), w' = q.to := ⟨⟨w', hg⟩, rfl⟩; clear hg)
          | (go_at_call 38; refine (tin_q _ _ _ _ _ (by with_reducible assumption) _).mono ?_; rintro e w' ⟨rfl, hg⟩; obtain ⟨q', rfl⟩ := by_of hg; clear hg)
          | (go_at_call 17; refine (spanIn_q _ _ _ _ _ (by with_reducible assumption) _).mono ?_; rintro e w' ⟨rfl, hg⟩; obtain ⟨q', rfl⟩ := by_of hg; clear hg)
          | (go_at_call 19; refine (within_q _ _ _ _ _ (by with_reducible assumption) _).mono ?_; rintro e w' ⟨rfl, hg⟩; obtain ⟨q', rfl⟩ := by_of hg; clear hg))
        go_ret
        exact ⟨by simp, Gr.trans ⟨by go_grown, by go_grown⟩ (GrBy.gr _)⟩
      · cases b3 : ((decide (bsl ≤ asl) && decide (asl ≤ bsh)) && (decide (bsl ≤ ash) && decide (ash ≤ bsh)))
        · go_enter Tryz.func12, Tryz.ntmps12
          go_wp2_with (first
            | (go_at_call 15; refine (None_q _ _ _ _ _ _ _ _ _ _ _ (by with_reducible assumption) _).mono ?_; rintro e w' ⟨rfl, hg⟩; obtain ⟨q0, rfl⟩ : ∃ q : GrBy ((w.alloc (.cells #[.int .u64 (iv atv), .int .u64 (iv atm), .int .u64 aul, .int .u64 auh, .int .i64 asl, .int .i64 ash, .int .u64 awl, .int .u64 awh, .int .i64 avl, .int .i64 avh] 33)).alloc (.cells #[.int .u64 (iv btv), .int .u64 (iv btm), .int .u64 bul, .int .u64 buh, .int .i64 bsl, .int .i64 bsh, .int .u64 bwl, .int .u64 bwh, .int .i64 bvl, .int .i64 bvh] 33)), w' = q.to := ⟨⟨w', hg⟩, rfl⟩; clear hg)
            | (go_at_call 38; refine (tin_q _ _ _ _ _ (by with_reducible assumption) _).mono ?_; rintro e w' ⟨rfl, hg⟩; obtain ⟨q', rfl⟩ := by_of hg; clear hg)
            | (go_at_call 17; refine (spanIn_q _ _ _ _ _ (by with_reducible assumption) _).mono ?_; rintro e w' ⟨rfl, hg⟩; obtain ⟨q', rfl⟩ := by_of hg; clear hg)
            | (go_at_call 19; refine (within_q _ _ _ _ _ (by with_reducible assumption) _).mono ?_; rintro e w' ⟨rfl, hg⟩; obtain ⟨q', rfl⟩ := by_of hg; clear hg))
          go_ret
          exact ⟨by simp, Gr.trans ⟨by go_grown, by go_grown⟩ (GrBy.gr _)⟩
        · cases b4 : (decide (awh < awl) || ((decide (bwl ≤ awl) && decide (awl ≤ bwh)) && (decide (bwl ≤ awh) && decide (awh ≤ bwh))))
          · go_enter Tryz.func12, Tryz.ntmps12
            go_wp2_with (first
              | (go_at_call 15; refine (None_q _ _ _ _ _ _ _ _ _ _ _ (by with_reducible assumption) _).mono ?_; rintro e w' ⟨rfl, hg⟩; obtain ⟨q0, rfl⟩ : ∃ q : GrBy ((w.alloc (.cells #[.int .u64 (iv atv), .int .u64 (iv atm), .int .u64 aul, .int .u64 auh, .int .i64 asl, .int .i64 ash, .int .u64 awl, .int .u64 awh, .int .i64 avl, .int .i64 avh] 33)).alloc (.cells #[.int .u64 (iv btv), .int .u64 (iv btm), .int .u64 bul, .int .u64 buh, .int .i64 bsl, .int .i64 bsh, .int .u64 bwl, .int .u64 bwh, .int .i64 bvl, .int .i64 bvh] 33)), w' = q.to := ⟨⟨w', hg⟩, rfl⟩; clear hg)
              | (go_at_call 38; refine (tin_q _ _ _ _ _ (by with_reducible assumption) _).mono ?_; rintro e w' ⟨rfl, hg⟩; obtain ⟨q', rfl⟩ := by_of hg; clear hg)
              | (go_at_call 17; refine (spanIn_q _ _ _ _ _ (by with_reducible assumption) _).mono ?_; rintro e w' ⟨rfl, hg⟩; obtain ⟨q', rfl⟩ := by_of hg; clear hg)
              | (go_at_call 19; refine (within_q _ _ _ _ _ (by with_reducible assumption) _).mono ?_; rintro e w' ⟨rfl, hg⟩; obtain ⟨q', rfl⟩ := by_of hg; clear hg))
            go_ret
            exact ⟨by simp, Gr.trans ⟨by go_grown, by go_grown⟩ (GrBy.gr _)⟩
          · cases b5 : ((decide (bvl ≤ avl) && decide (avl ≤ bvh)) && (decide (bvl ≤ avh) && decide (avh ≤ bvh)))
            · go_enter Tryz.func12, Tryz.ntmps12
              go_wp2_with (first
                | (go_at_call 15; refine (None_q _ _ _ _ _ _ _ _ _ _ _ (by with_reducible assumption) _).mono ?_; rintro e w' ⟨rfl, hg⟩; obtain ⟨q0, rfl⟩ : ∃ q : GrBy ((w.alloc (.cells #[.int .u64 (iv atv), .int .u64 (iv atm), .int .u64 aul, .int .u64 auh, .int .i64 asl, .int .i64 ash, .int .u64 awl, .int .u64 awh, .int .i64 avl, .int .i64 avh] 33)).alloc (.cells #[.int .u64 (iv btv), .int .u64 (iv btm), .int .u64 bul, .int .u64 buh, .int .i64 bsl, .int .i64 bsh, .int .u64 bwl, .int .u64 bwh, .int .i64 bvl, .int .i64 bvh] 33)), w' = q.to := ⟨⟨w', hg⟩, rfl⟩; clear hg)
                | (go_at_call 38; refine (tin_q _ _ _ _ _ (by with_reducible assumption) _).mono ?_; rintro e w' ⟨rfl, hg⟩; obtain ⟨q', rfl⟩ := by_of hg; clear hg)
                | (go_at_call 17; refine (spanIn_q _ _ _ _ _ (by with_reducible assumption) _).mono ?_; rintro e w' ⟨rfl, hg⟩; obtain ⟨q', rfl⟩ := by_of hg; clear hg)
                | (go_at_call 19; refine (within_q _ _ _ _ _ (by with_reducible assumption) _).mono ?_; rintro e w' ⟨rfl, hg⟩; obtain ⟨q', rfl⟩ := by_of hg; clear hg))
              go_ret
              exact ⟨by simp, Gr.trans ⟨by go_grown, by go_grown⟩ (GrBy.gr _)⟩
            · go_enter Tryz.func12, Tryz.ntmps12
              go_wp2_with (first
                | (go_at_call 15; refine (None_q _ _ _ _ _ _ _ _ _ _ _ (by with_reducible assumption) _).mono ?_; rintro e w' ⟨rfl, hg⟩; obtain ⟨q0, rfl⟩ : ∃ q : GrBy ((w.alloc (.cells #[.int .u64 (iv atv), .int .u64 (iv atm), .int .u64 aul, .int .u64 auh, .int .i64 asl, .int .i64 ash, .int .u64 awl, .int .u64 awh, .int .i64 avl, .int .i64 avh] 33)).alloc (.cells #[.int .u64 (iv btv), .int .u64 (iv btm), .int .u64 bul, .int .u64 buh, .int .i64 bsl, .int .i64 bsh, .int .u64 bwl, .int .u64 bwh, .int .i64 bvl, .int .i64 bvh] 33)), w' = q.to := ⟨⟨w', hg⟩, rfl⟩; clear hg)
                | (go_at_call 38; refine (tin_q _ _ _ _ _ (by with_reducible assumption) _).mono ?_; rintro e w' ⟨rfl, hg⟩; obtain ⟨q', rfl⟩ := by_of hg; clear hg)
                | (go_at_call 17; refine (spanIn_q _ _ _ _ _ (by with_reducible assumption) _).mono ?_; rintro e w' ⟨rfl, hg⟩; obtain ⟨q', rfl⟩ := by_of hg; clear hg)
                | (go_at_call 19; refine (within_q _ _ _ _ _ (by with_reducible assumption) _).mono ?_; rintro e w' ⟨rfl, hg⟩; obtain ⟨q', rfl⟩ := by_of hg; clear hg))
              go_ret
              exact ⟨by simp, Gr.trans ⟨by go_grown, by go_grown⟩ (GrBy.gr _)⟩
  · skip
    go_enter Tryz.func12, Tryz.ntmps12
    go_wp2_with (first
      | (go_at_call 15; refine (None_q _ _ _ _ _ _ _ _ _ _ _ (by with_reducible assumption) _).mono ?_; rintro e w' ⟨rfl, hg⟩; obtain ⟨q0, rfl⟩ : ∃ q : GrBy ((w.alloc (.cells #[.int .u64 (iv atv), .int .u64 (iv atm), .int .u64 aul, .int .u64 auh, .int .i64 asl, .int .i64 ash, .int .u64 awl, .int .u64 awh, .int .i64 avl, .int .i64 avh] 33)).alloc (.cells #[.int .u64 (iv btv), .int .u64 (iv btm), .int .u64 bul, .int .u64 buh, .int .i64 bsl, .int .i64 bsh, .int .u64 bwl, .int .u64 bwh, .int .i64 bvl, .int .i64 bvh] 33)), w' = q.to := ⟨⟨w', hg⟩, rfl⟩; clear hg)
      | (go_at_call 38; refine (tin_q _ _ _ _ _ (by with_reducible assumption) _).mono ?_; rintro e w' ⟨rfl, hg⟩; obtain ⟨q', rfl⟩ := by_of hg; clear hg)
      | (go_at_call 17; refine (spanIn_q _ _ _ _ _ (by with_reducible assumption) _).mono ?_; rintro e w' ⟨rfl, hg⟩; obtain ⟨q', rfl⟩ := by_of hg; clear hg)
      | (go_at_call 19; refine (within_q _ _ _ _ _ (by with_reducible assumption) _).mono ?_; rintro e w' ⟨rfl, hg⟩; obtain ⟨q', rfl⟩ := by_of hg; clear hg))
    go_ret
    exact ⟨by simp, Gr.trans ⟨by go_grown, by go_grown⟩ (GrBy.gr _)⟩
end Go.Proofs.YtcbcijibgpaipabGreat
end
section
namespace Go.Proofs.YtcbcijibgpaipabGreat
open Go.ChangeShapes Go.WideShapes Go.ChangeAt Go.RowKit
open Tn (iv)
set_option linter.unusedVariables false

section
variable {b c : Bd} {l h : Int} {x : BitVec 64}
end
section
variable {b : Bd} {x : BitVec 64}
end
theorem inM_of {a b : Bd} (g : Good a) (h : Le a b) : inM a b = true := by
  unfold inM inR
  have := h.ul; have := h.uh; have := h.sl; have := h.sh; have := h.wl; have := h.wh; have := h.vl; have := h.vh
  have := g.u1; have := g.s1; have := g.w1; have := g.v1
  rw [h.m, h.v]
  simp
  omega
end Go.Proofs.YtcbcijibgpaipabGreat
end
section
namespace Go.Proofs.YtcbcijibgpaipabGreat
open Go.ChangeShapes Go.WideShapes Go.ChangeAt Go.RowKit
open Tn (iv)
set_option linter.unusedVariables false

section
variable {o : Oper} {a : Act} {w : World} {K : Act → World → Prop} {Q : Exit → Act → World → Prop} {p x : Operand} {b : Nat} {c d : Bd}
end
section
variable (a b : Bd) (x : BitVec 64) (w : World)
theorem k_in : Calls Tryz.prog 12 #[.agg (bv a), .agg (bv b)] w fun e w' => e = .returned (.bool (inM a b)) ∧ Gr w w' := by
  refine (in_all a.tv a.tm a.ul a.uh a.sl a.sh a.wl a.wh a.vl a.vh b.tv b.tm b.ul b.uh b.sl b.sh b.wl b.wh b.vl b.vh w).mono ?_
  rintro e w' ⟨rfl, hg⟩
  refine ⟨?_, hg⟩
  simp only [inM, inR, nnB, nn, Bool.and_assoc]
theorem k_meet (ga : Good a) (gb : Good b) (ka : Has a x) (kb : Has b x) : Calls Tryz.prog 7 #[.agg (bv a), .agg (bv b)] w fun e w' => e = .returned (.agg (bv (syncM (meetP a b)))) ∧ Gr w w' := by
  have g := meetP_good ga gb ka kb
  exact meet_go a.tv a.tm a.ul a.uh a.sl a.sh a.wl a.wh a.vl a.vh b.tv b.tm b.ul b.uh b.sl b.sh b.wl b.wh b.vl b.vh _ rfl ⟨g.u0, Int.le_trans g.u1 g.u2⟩ ⟨Int.le_trans g.u0 g.u1, g.u2⟩ ⟨g.s0, Int.le_trans g.s1 g.s2⟩ ⟨Int.le_trans g.s0 g.s1, g.s2⟩ (nnB_of ga) (nnB_of gb) (meetX_of ka kb) w
end
end Go.Proofs.YtcbcijibgpaipabGreat
end
