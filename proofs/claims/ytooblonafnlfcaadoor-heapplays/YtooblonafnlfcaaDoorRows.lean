/-
  NARROWER THAN 'FOR EVERY INPUT', by the rows' own cells (each row's printed sentence says how): HeapPlays: laid · HeapCounts: laid · HeapBytes: laid · HeapNone: laid · HeapApart: laid.
  DERIVED. THE GIVEN ROWS OF THIS SEAT. 5 by the template 'for every input the law returns true; each argument reads behind the call as it read before'; 0 by the template 'total and deterministic' (their statements: YtooblonafnlfcaaDoorTotals.lean).
  GIVEN WITH THE SEED: the statements are not yours to turn. If you find one false, say at which input.
  Laid BY PROGRAM, IN A SANDBOX (cutbox-rows.mjs): the forced cells as the released guide's own fill.sh prints them over the translation fd061f1fe5baa45a… (all of the seat's roots in one cut). By AI agents, Wed Nov 11 2026. No macro, syntax, notation, axiom, sorry.
-/
import Derived.Test.YtooblonafnlfcaaDoorChecked
import GoSem.Claim
import GoSem.ClaimJoined
import GoSem.ClaimMapViews
import Derived.JoinedTies
import Derived.KernelRfl
namespace Go.Proofs.YtooblonafnlfcaaDoor
/- THE CELL 'sum', in the pinned program and in every row, IS THE sha256 OF THE DUMP (.gsa) THAT YtooblonafnlfcaaDoorProg.lean LOADS. Nothing in Lean hashes anything: it is a label: what it is worth is what the hold of that sum in a sandbox is worth. -/
noncomputable def Tryd.pinned : Pinned := { name := "ytooblonafnlfcaadoor", sum := "fd061f1fe5baa45a0a9bce585fe9f2c6186de6cd347b9d7f0c599256415f2e0b", checked := Tryd.checked }
namespace Rows
def none {H : Type} : Left H := { results := [], args := [] }

/- WHAT THE LISTED PACKAGE-LEVEL VARIABLES READ AS WHEN THE CALL BEGINS. Each datum BY PROGRAM (the guide's laid-datum.mjs) off the statement by which the dump's own 'gosem.cut.vars' lays the variable. In a bare row this is a premise. The card (YtooblonafnlfcaaDoorCards.lean) ties it to the program's text. -/
def laid_warden_slab_classes {H : Type} : DataW H := .agg [.lit (.int .i64 8), .lit (.int .i64 16), .lit (.int .i64 32), .lit (.int .i64 64), .lit (.int .i64 128)]

/-- 'wardenlaw14.HeapPlays': WHATEVER THE INPUT: true; the input reads as it did. -/
def heapPlaysSpec : ChangeSpec := { name := "heapPlays", fn := fun _ => fun
  | [d1, d2] => { results := [.lit (.bool true)], args := [d1, d2] }
  | _ => none }
def heapPlaysRow : OpenClaim := { program := "ytooblonafnlfcaadoor", sum := "fd061f1fe5baa45a0a9bce585fe9f2c6186de6cd347b9d7f0c599256415f2e0b", func := "warden/wardenlaw14.HeapPlays", spec := "heapPlays", unfollowed := true, recurses := true, named := ["warden/slab.classes"], plainKeys := false, apart := false, laid := [("warden/slab.classes", laid_warden_slab_classes)] }
def HeapPlaysSaid : Prop := heapPlaysRow.holds Tryd.pinned (OpenSpec.ofChange heapPlaysSpec)

/-- ITS FALSE NEIGHBOUR: 'it returns false'. Refute it at one input. -/
def heapPlaysWrong : ChangeSpec := { name := "heapPlays", fn := fun _ => fun
  | [d1, d2] => { results := [.lit (.bool false)], args := [d1, d2] }
  | _ => none }
def HeapPlaysWrongFalsely : Prop := heapPlaysRow.holds Tryd.pinned (OpenSpec.ofChange heapPlaysWrong)

/-- 'wardenlaw14.HeapCounts': WHATEVER THE INPUT: true; the input reads as it did. -/
def heapCountsSpec : ChangeSpec := { name := "heapCounts", fn := fun _ => fun
  | [d1, d2] => { results := [.lit (.bool true)], args := [d1, d2] }
  | _ => none }
def heapCountsRow : OpenClaim := { program := "ytooblonafnlfcaadoor", sum := "fd061f1fe5baa45a0a9bce585fe9f2c6186de6cd347b9d7f0c599256415f2e0b", func := "warden/wardenlaw14.HeapCounts", spec := "heapCounts", named := ["warden/slab.classes"], plainKeys := false, apart := false, laid := [("warden/slab.classes", laid_warden_slab_classes)] }
def HeapCountsSaid : Prop := heapCountsRow.holds Tryd.pinned (OpenSpec.ofChange heapCountsSpec)

/-- ITS FALSE NEIGHBOUR: 'it returns false'. Refute it at one input. -/
def heapCountsWrong : ChangeSpec := { name := "heapCounts", fn := fun _ => fun
  | [d1, d2] => { results := [.lit (.bool false)], args := [d1, d2] }
  | _ => none }
def HeapCountsWrongFalsely : Prop := heapCountsRow.holds Tryd.pinned (OpenSpec.ofChange heapCountsWrong)

/-- 'wardenlaw14.HeapBytes': WHATEVER THE INPUT: true; the input reads as it did. -/
def heapBytesSpec : ChangeSpec := { name := "heapBytes", fn := fun _ => fun
  | [d1, d2, d3, d4, d5] => { results := [.lit (.bool true)], args := [d1, d2, d3, d4, d5] }
  | _ => none }
def heapBytesRow : OpenClaim := { program := "ytooblonafnlfcaadoor", sum := "fd061f1fe5baa45a0a9bce585fe9f2c6186de6cd347b9d7f0c599256415f2e0b", func := "warden/wardenlaw14.HeapBytes", spec := "heapBytes", named := ["warden/slab.classes"], plainKeys := false, apart := false, laid := [("warden/slab.classes", laid_warden_slab_classes)] }
def HeapBytesSaid : Prop := heapBytesRow.holds Tryd.pinned (OpenSpec.ofChange heapBytesSpec)

/-- ITS FALSE NEIGHBOUR: 'it returns false'. Refute it at one input. -/
def heapBytesWrong : ChangeSpec := { name := "heapBytes", fn := fun _ => fun
  | [d1, d2, d3, d4, d5] => { results := [.lit (.bool false)], args := [d1, d2, d3, d4, d5] }
  | _ => none }
def HeapBytesWrongFalsely : Prop := heapBytesRow.holds Tryd.pinned (OpenSpec.ofChange heapBytesWrong)

/-- 'wardenlaw14.HeapNone': WHATEVER THE INPUT: true; the input reads as it did. -/
def heapNoneSpec : ChangeSpec := { name := "heapNone", fn := fun _ => fun
  | [d1, d2] => { results := [.lit (.bool true)], args := [d1, d2] }
  | _ => none }
def heapNoneRow : OpenClaim := { program := "ytooblonafnlfcaadoor", sum := "fd061f1fe5baa45a0a9bce585fe9f2c6186de6cd347b9d7f0c599256415f2e0b", func := "warden/wardenlaw14.HeapNone", spec := "heapNone", unfollowed := true, recurses := true, named := ["warden/slab.classes"], plainKeys := false, apart := false, laid := [("warden/slab.classes", laid_warden_slab_classes)] }
def HeapNoneSaid : Prop := heapNoneRow.holds Tryd.pinned (OpenSpec.ofChange heapNoneSpec)

/-- ITS FALSE NEIGHBOUR: 'it returns false'. Refute it at one input. -/
def heapNoneWrong : ChangeSpec := { name := "heapNone", fn := fun _ => fun
  | [d1, d2] => { results := [.lit (.bool false)], args := [d1, d2] }
  | _ => none }
def HeapNoneWrongFalsely : Prop := heapNoneRow.holds Tryd.pinned (OpenSpec.ofChange heapNoneWrong)

/-- 'wardenlaw14.HeapApart': WHATEVER THE INPUT: true; the input reads as it did. -/
def heapApartSpec : ChangeSpec := { name := "heapApart", fn := fun _ => fun
  | [d1, d2] => { results := [.lit (.bool true)], args := [d1, d2] }
  | _ => none }
def heapApartRow : OpenClaim := { program := "ytooblonafnlfcaadoor", sum := "fd061f1fe5baa45a0a9bce585fe9f2c6186de6cd347b9d7f0c599256415f2e0b", func := "warden/wardenlaw14.HeapApart", spec := "heapApart", named := ["warden/slab.classes"], plainKeys := false, apart := false, laid := [("warden/slab.classes", laid_warden_slab_classes)] }
def HeapApartSaid : Prop := heapApartRow.holds Tryd.pinned (OpenSpec.ofChange heapApartSpec)

/-- ITS FALSE NEIGHBOUR: 'it returns false'. Refute it at one input. -/
def heapApartWrong : ChangeSpec := { name := "heapApart", fn := fun _ => fun
  | [d1, d2] => { results := [.lit (.bool false)], args := [d1, d2] }
  | _ => none }
def HeapApartWrongFalsely : Prop := heapApartRow.holds Tryd.pinned (OpenSpec.ofChange heapApartWrong)

/- THE SECOND FORM. 'bulk': how many values and letters a reading holds, each counted each time it is reached (what is shared counts as often as it is met; a slice's spare places count too). A statement '..UptoSaid' is the law's where the arguments, and the package variables that the reading takes, are together of bulk at most 1048576: NARROWER than '..Said'. Prove '..Said' where nothing that the law and all that it calls make is longer than what came in: it says more and counts as full. Else prove '..UptoSaid'. A law counts once. -/
mutual
def uptoBulk {H : Type} : DataW H → Nat
  | .lit (.string bytes) => bytes.length + 1
  | .lit _ => 1
  | .nil => 1
  | .ptr d => uptoBulk d + 1
  | .slice elems spare => uptoBulkAll elems + uptoBulkAll spare + 1
  | .agg parts => uptoBulkAll parts + 1
  | .iface _ d => uptoBulk d + 1
  | .map entries => uptoBulkEntries entries + 1
  | .held _ => 1
def uptoBulkAll {H : Type} : List (DataW H) → Nat
  | [] => 0
  | d :: r => uptoBulk d + uptoBulkAll r
def uptoBulkEntries {H : Type} : List (Lit × DataW H) → Nat
  | [] => 0
  | x :: r => uptoBulkEntry x + uptoBulkEntries r
def uptoBulkEntry {H : Type} : Lit × DataW H → Nat
  | (.string bytes, d) => bytes.length + uptoBulk d + 1
  | (_, d) => uptoBulk d + 1
 end
def uptoSmall : (H : Type) → List (DataW H) → Bool := fun _ ds => decide (uptoBulkAll ds ≤ 1048576)
def OpenSpec.upto (s : _root_.Go.ChangeSpec) : _root_.Go.OpenSpec := { _root_.Go.OpenSpec.ofChange s with cond := some uptoSmall }

/-- 'wardenlaw14.HeapPlays', WHERE WHAT IT READS IS OF BULK AT MOST 1048576: true; the input reads as it did. -/
def heapPlaysUptoRow : OpenClaim := { program := "ytooblonafnlfcaadoor", sum := "fd061f1fe5baa45a0a9bce585fe9f2c6186de6cd347b9d7f0c599256415f2e0b", func := "warden/wardenlaw14.HeapPlays", spec := "heapPlays", unfollowed := true, recurses := true, named := ["warden/slab.classes"], plainKeys := false, apart := false, laid := [("warden/slab.classes", laid_warden_slab_classes)], narrowed := true }
def HeapPlaysUptoSaid : Prop := heapPlaysUptoRow.holds Tryd.pinned (OpenSpec.upto heapPlaysSpec)

/-- 'wardenlaw14.HeapCounts', WHERE WHAT IT READS IS OF BULK AT MOST 1048576: true; the input reads as it did. -/
def heapCountsUptoRow : OpenClaim := { program := "ytooblonafnlfcaadoor", sum := "fd061f1fe5baa45a0a9bce585fe9f2c6186de6cd347b9d7f0c599256415f2e0b", func := "warden/wardenlaw14.HeapCounts", spec := "heapCounts", named := ["warden/slab.classes"], plainKeys := false, apart := false, laid := [("warden/slab.classes", laid_warden_slab_classes)], narrowed := true }
def HeapCountsUptoSaid : Prop := heapCountsUptoRow.holds Tryd.pinned (OpenSpec.upto heapCountsSpec)

/-- 'wardenlaw14.HeapBytes', WHERE WHAT IT READS IS OF BULK AT MOST 1048576: true; the input reads as it did. -/
def heapBytesUptoRow : OpenClaim := { program := "ytooblonafnlfcaadoor", sum := "fd061f1fe5baa45a0a9bce585fe9f2c6186de6cd347b9d7f0c599256415f2e0b", func := "warden/wardenlaw14.HeapBytes", spec := "heapBytes", named := ["warden/slab.classes"], plainKeys := false, apart := false, laid := [("warden/slab.classes", laid_warden_slab_classes)], narrowed := true }
def HeapBytesUptoSaid : Prop := heapBytesUptoRow.holds Tryd.pinned (OpenSpec.upto heapBytesSpec)

/-- 'wardenlaw14.HeapNone', WHERE WHAT IT READS IS OF BULK AT MOST 1048576: true; the input reads as it did. -/
def heapNoneUptoRow : OpenClaim := { program := "ytooblonafnlfcaadoor", sum := "fd061f1fe5baa45a0a9bce585fe9f2c6186de6cd347b9d7f0c599256415f2e0b", func := "warden/wardenlaw14.HeapNone", spec := "heapNone", unfollowed := true, recurses := true, named := ["warden/slab.classes"], plainKeys := false, apart := false, laid := [("warden/slab.classes", laid_warden_slab_classes)], narrowed := true }
def HeapNoneUptoSaid : Prop := heapNoneUptoRow.holds Tryd.pinned (OpenSpec.upto heapNoneSpec)

/-- 'wardenlaw14.HeapApart', WHERE WHAT IT READS IS OF BULK AT MOST 1048576: true; the input reads as it did. -/
def heapApartUptoRow : OpenClaim := { program := "ytooblonafnlfcaadoor", sum := "fd061f1fe5baa45a0a9bce585fe9f2c6186de6cd347b9d7f0c599256415f2e0b", func := "warden/wardenlaw14.HeapApart", spec := "heapApart", named := ["warden/slab.classes"], plainKeys := false, apart := false, laid := [("warden/slab.classes", laid_warden_slab_classes)], narrowed := true }
def HeapApartUptoSaid : Prop := heapApartUptoRow.holds Tryd.pinned (OpenSpec.upto heapApartSpec)

end Rows
end Go.Proofs.YtooblonafnlfcaaDoor
