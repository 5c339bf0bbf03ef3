/-
  NARROWER THAN 'FOR EVERY INPUT', by the rows' own cells (each row's printed sentence says how): SlabPlays: laid · SlabRoom: laid · SlabApart: laid · SlabNone: laid · SlabReuse: laid.
  DERIVED. THE GIVEN ROWS OF THIS SEAT. 5 by the template 'for every input the law returns true; each argument reads behind the call as it read before'; 0 by the template 'total and deterministic' (their statements: YtkjdnebmhljciaaDoorTotals.lean).
  GIVEN WITH THE SEED: the statements are not yours to turn. If you find one false, say at which input.
  Laid BY PROGRAM, IN A SANDBOX (cutbox-rows.mjs): the forced cells as the released guide's own fill.sh prints them over the translation 8c5791b17b462408… (all of the seat's roots in one cut). By AI agents, Wed Nov 11 2026. No macro, syntax, notation, axiom, sorry.
-/
import Derived.Test.YtkjdnebmhljciaaDoorChecked
import GoSem.Claim
import GoSem.ClaimJoined
import GoSem.ClaimMapViews
import Derived.JoinedTies
import Derived.KernelRfl
namespace Go.Proofs.YtkjdnebmhljciaaDoor
/- THE CELL 'sum', in the pinned program and in every row, IS THE sha256 OF THE DUMP (.gsa) THAT YtkjdnebmhljciaaDoorProg.lean LOADS. Nothing in Lean hashes anything: it is a label: what it is worth is what the hold of that sum in a sandbox is worth. -/
noncomputable def Tryd.pinned : Pinned := { name := "ytkjdnebmhljciaadoor", sum := "8c5791b17b462408779534c2eaf1b2691085a0d06c228edc525c6cb415836e5a", checked := Tryd.checked }
namespace Rows
def none {H : Type} : Left H := { results := [], args := [] }

/- WHAT THE LISTED PACKAGE-LEVEL VARIABLES READ AS WHEN THE CALL BEGINS. Each datum BY PROGRAM (the guide's laid-datum.mjs) off the statement by which the dump's own 'gosem.cut.vars' lays the variable. In a bare row this is a premise. The card (YtkjdnebmhljciaaDoorCards.lean) ties it to the program's text. -/
def laid_warden_slab_classes {H : Type} : DataW H := .agg [.lit (.int .i64 8), .lit (.int .i64 16), .lit (.int .i64 32), .lit (.int .i64 64), .lit (.int .i64 128)]

/-- 'wardenlaw12.SlabPlays': WHATEVER THE INPUT: true; the input reads as it did. -/
def slabPlaysSpec : ChangeSpec := { name := "slabPlays", fn := fun _ => fun
  | [d1, d2] => { results := [.lit (.bool true)], args := [d1, d2] }
  | _ => none }
def slabPlaysRow : OpenClaim := { program := "ytkjdnebmhljciaadoor", sum := "8c5791b17b462408779534c2eaf1b2691085a0d06c228edc525c6cb415836e5a", func := "warden/wardenlaw12.SlabPlays", spec := "slabPlays", named := ["warden/slab.classes"], apart := false, laid := [("warden/slab.classes", laid_warden_slab_classes)] }
def SlabPlaysSaid : Prop := slabPlaysRow.holds Tryd.pinned (OpenSpec.ofChange slabPlaysSpec)

/-- ITS FALSE NEIGHBOUR: 'it returns false'. Refute it at one input. -/
def slabPlaysWrong : ChangeSpec := { name := "slabPlays", fn := fun _ => fun
  | [d1, d2] => { results := [.lit (.bool false)], args := [d1, d2] }
  | _ => none }
def SlabPlaysWrongFalsely : Prop := slabPlaysRow.holds Tryd.pinned (OpenSpec.ofChange slabPlaysWrong)

/-- 'wardenlaw12.SlabRoom': WHATEVER THE INPUT: true; the input reads as it did. -/
def slabRoomSpec : ChangeSpec := { name := "slabRoom", fn := fun _ => fun
  | [d1, d2, d3] => { results := [.lit (.bool true)], args := [d1, d2, d3] }
  | _ => none }
def slabRoomRow : OpenClaim := { program := "ytkjdnebmhljciaadoor", sum := "8c5791b17b462408779534c2eaf1b2691085a0d06c228edc525c6cb415836e5a", func := "warden/wardenlaw12.SlabRoom", spec := "slabRoom", named := ["warden/slab.classes"], apart := false, laid := [("warden/slab.classes", laid_warden_slab_classes)] }
def SlabRoomSaid : Prop := slabRoomRow.holds Tryd.pinned (OpenSpec.ofChange slabRoomSpec)

/-- ITS FALSE NEIGHBOUR: 'it returns false'. Refute it at one input. -/
def slabRoomWrong : ChangeSpec := { name := "slabRoom", fn := fun _ => fun
  | [d1, d2, d3] => { results := [.lit (.bool false)], args := [d1, d2, d3] }
  | _ => none }
def SlabRoomWrongFalsely : Prop := slabRoomRow.holds Tryd.pinned (OpenSpec.ofChange slabRoomWrong)

/-- 'wardenlaw12.SlabApart': WHATEVER THE INPUT: true; the input reads as it did. -/
def slabApartSpec : ChangeSpec := { name := "slabApart", fn := fun _ => fun
  | [d1, d2, d3, d4] => { results := [.lit (.bool true)], args := [d1, d2, d3, d4] }
  | _ => none }
def slabApartRow : OpenClaim := { program := "ytkjdnebmhljciaadoor", sum := "8c5791b17b462408779534c2eaf1b2691085a0d06c228edc525c6cb415836e5a", func := "warden/wardenlaw12.SlabApart", spec := "slabApart", named := ["warden/slab.classes"], apart := false, laid := [("warden/slab.classes", laid_warden_slab_classes)] }
def SlabApartSaid : Prop := slabApartRow.holds Tryd.pinned (OpenSpec.ofChange slabApartSpec)

/-- ITS FALSE NEIGHBOUR: 'it returns false'. Refute it at one input. -/
def slabApartWrong : ChangeSpec := { name := "slabApart", fn := fun _ => fun
  | [d1, d2, d3, d4] => { results := [.lit (.bool false)], args := [d1, d2, d3, d4] }
  | _ => none }
def SlabApartWrongFalsely : Prop := slabApartRow.holds Tryd.pinned (OpenSpec.ofChange slabApartWrong)

/-- 'wardenlaw12.SlabNone': WHATEVER THE INPUT: true; the input reads as it did. -/
def slabNoneSpec : ChangeSpec := { name := "slabNone", fn := fun _ => fun
  | [d1, d2] => { results := [.lit (.bool true)], args := [d1, d2] }
  | _ => none }
def slabNoneRow : OpenClaim := { program := "ytkjdnebmhljciaadoor", sum := "8c5791b17b462408779534c2eaf1b2691085a0d06c228edc525c6cb415836e5a", func := "warden/wardenlaw12.SlabNone", spec := "slabNone", named := ["warden/slab.classes"], apart := false, laid := [("warden/slab.classes", laid_warden_slab_classes)] }
def SlabNoneSaid : Prop := slabNoneRow.holds Tryd.pinned (OpenSpec.ofChange slabNoneSpec)

/-- ITS FALSE NEIGHBOUR: 'it returns false'. Refute it at one input. -/
def slabNoneWrong : ChangeSpec := { name := "slabNone", fn := fun _ => fun
  | [d1, d2] => { results := [.lit (.bool false)], args := [d1, d2] }
  | _ => none }
def SlabNoneWrongFalsely : Prop := slabNoneRow.holds Tryd.pinned (OpenSpec.ofChange slabNoneWrong)

/-- 'wardenlaw12.SlabReuse': WHATEVER THE INPUT: true; the input reads as it did. -/
def slabReuseSpec : ChangeSpec := { name := "slabReuse", fn := fun _ => fun
  | [d1, d2] => { results := [.lit (.bool true)], args := [d1, d2] }
  | _ => none }
def slabReuseRow : OpenClaim := { program := "ytkjdnebmhljciaadoor", sum := "8c5791b17b462408779534c2eaf1b2691085a0d06c228edc525c6cb415836e5a", func := "warden/wardenlaw12.SlabReuse", spec := "slabReuse", named := ["warden/slab.classes"], apart := false, laid := [("warden/slab.classes", laid_warden_slab_classes)] }
def SlabReuseSaid : Prop := slabReuseRow.holds Tryd.pinned (OpenSpec.ofChange slabReuseSpec)

/-- ITS FALSE NEIGHBOUR: 'it returns false'. Refute it at one input. -/
def slabReuseWrong : ChangeSpec := { name := "slabReuse", fn := fun _ => fun
  | [d1, d2] => { results := [.lit (.bool false)], args := [d1, d2] }
  | _ => none }
def SlabReuseWrongFalsely : Prop := slabReuseRow.holds Tryd.pinned (OpenSpec.ofChange slabReuseWrong)

/- THE SECOND FORM. 'bulk': how many values and letters a reading holds, each counted each time it is reached (what is shared counts as often as it is met; a slice's spare places count too). A statement '..UptoSaid' is the law's where the arguments, and the package variables that the reading takes, are together of bulk at most 1048576: NARROWER than '..Said'. Prove '..Said' where nothing that the law and all that it calls make is longer than what came in: it says more and counts as full. Else prove '..UptoSaid'. A law counts once. -/
mutual
def uptoBulk {H : Type} : DataW H → Nat
  | .lit (.string bytes) => bytes.length + 1
  | .lit _ => 1
  | .nil => 1
  | .ptr d => uptoBulk d + 1
  | .slice elems spare => uptoBulkAll elems + uptoBulkAll spare + 1
  | .agg parts => uptoBulkAll parts + 1
  | .iface _ d => uptoBulk d + 1
  | .map entries => uptoBulkEntries entries + 1
  | .held _ => 1
def uptoBulkAll {H : Type} : List (DataW H) → Nat
  | [] => 0
  | d :: r => uptoBulk d + uptoBulkAll r
def uptoBulkEntries {H : Type} : List (Lit × DataW H) → Nat
  | [] => 0
  | x :: r => uptoBulkEntry x + uptoBulkEntries r
def uptoBulkEntry {H : Type} : Lit × DataW H → Nat
  | (.string bytes, d) => bytes.length + uptoBulk d + 1
  | (_, d) => uptoBulk d + 1
 end
def uptoSmall : (H : Type) → List (DataW H) → Bool := fun _ ds => decide (uptoBulkAll ds ≤ 1048576)
def OpenSpec.upto (s : _root_.Go.ChangeSpec) : _root_.Go.OpenSpec := { _root_.Go.OpenSpec.ofChange s with cond := some uptoSmall }

/-- 'wardenlaw12.SlabPlays', WHERE WHAT IT READS IS OF BULK AT MOST 1048576: true; the input reads as it did. -/
def slabPlaysUptoRow : OpenClaim := { program := "ytkjdnebmhljciaadoor", sum := "8c5791b17b462408779534c2eaf1b2691085a0d06c228edc525c6cb415836e5a", func := "warden/wardenlaw12.SlabPlays", spec := "slabPlays", named := ["warden/slab.classes"], apart := false, laid := [("warden/slab.classes", laid_warden_slab_classes)], narrowed := true }
def SlabPlaysUptoSaid : Prop := slabPlaysUptoRow.holds Tryd.pinned (OpenSpec.upto slabPlaysSpec)

/-- 'wardenlaw12.SlabRoom', WHERE WHAT IT READS IS OF BULK AT MOST 1048576: true; the input reads as it did. -/
def slabRoomUptoRow : OpenClaim := { program := "ytkjdnebmhljciaadoor", sum := "8c5791b17b462408779534c2eaf1b2691085a0d06c228edc525c6cb415836e5a", func := "warden/wardenlaw12.SlabRoom", spec := "slabRoom", named := ["warden/slab.classes"], apart := false, laid := [("warden/slab.classes", laid_warden_slab_classes)], narrowed := true }
def SlabRoomUptoSaid : Prop := slabRoomUptoRow.holds Tryd.pinned (OpenSpec.upto slabRoomSpec)

/-- 'wardenlaw12.SlabApart', WHERE WHAT IT READS IS OF BULK AT MOST 1048576: true; the input reads as it did. -/
def slabApartUptoRow : OpenClaim := { program := "ytkjdnebmhljciaadoor", sum := "8c5791b17b462408779534c2eaf1b2691085a0d06c228edc525c6cb415836e5a", func := "warden/wardenlaw12.SlabApart", spec := "slabApart", named := ["warden/slab.classes"], apart := false, laid := [("warden/slab.classes", laid_warden_slab_classes)], narrowed := true }
def SlabApartUptoSaid : Prop := slabApartUptoRow.holds Tryd.pinned (OpenSpec.upto slabApartSpec)

/-- 'wardenlaw12.SlabNone', WHERE WHAT IT READS IS OF BULK AT MOST 1048576: true; the input reads as it did. -/
def slabNoneUptoRow : OpenClaim := { program := "ytkjdnebmhljciaadoor", sum := "8c5791b17b462408779534c2eaf1b2691085a0d06c228edc525c6cb415836e5a", func := "warden/wardenlaw12.SlabNone", spec := "slabNone", named := ["warden/slab.classes"], apart := false, laid := [("warden/slab.classes", laid_warden_slab_classes)], narrowed := true }
def SlabNoneUptoSaid : Prop := slabNoneUptoRow.holds Tryd.pinned (OpenSpec.upto slabNoneSpec)

/-- 'wardenlaw12.SlabReuse', WHERE WHAT IT READS IS OF BULK AT MOST 1048576: true; the input reads as it did. -/
def slabReuseUptoRow : OpenClaim := { program := "ytkjdnebmhljciaadoor", sum := "8c5791b17b462408779534c2eaf1b2691085a0d06c228edc525c6cb415836e5a", func := "warden/wardenlaw12.SlabReuse", spec := "slabReuse", named := ["warden/slab.classes"], apart := false, laid := [("warden/slab.classes", laid_warden_slab_classes)], narrowed := true }
def SlabReuseUptoSaid : Prop := slabReuseUptoRow.holds Tryd.pinned (OpenSpec.upto slabReuseSpec)

end Rows
end Go.Proofs.YtkjdnebmhljciaaDoor
