/-
  No cell of these rows narrows 'for every input' (looked for: loops, veiled, ifaces, maps, wideKeys, modest, calm, conditions, laid).
  DERIVED. THE GIVEN ROWS OF THIS SEAT. 6 by the template 'for every input the law returns true; each argument reads behind the call as it read before'; 0 by the template 'total and deterministic' (their statements: YtcbcijibgpaipaaGreatTotals.lean).
  GIVEN WITH THE SEED: the statements are not yours to turn. If you find one false, say at which input.
  Laid BY PROGRAM, IN A SANDBOX (cutbox-rows.mjs): the forced cells as the released guide's own fill.sh prints them over the translation cb758bf91642f38c… (all of the seat's roots in one cut). By AI agents, Wed Nov 11 2026. No macro, syntax, notation, axiom, sorry.
-/
import Derived.Test.YtcbcijibgpaipaaGreatChecked
import GoSem.Claim
import GoSem.ClaimJoined
import GoSem.ClaimMapViews
import Derived.JoinedTies
import Derived.KernelRfl
namespace Go.Proofs.YtcbcijibgpaipaaGreat
/- THE CELL 'sum', in the pinned program and in every row, IS THE sha256 OF THE DUMP (.gsa) THAT YtcbcijibgpaipaaGreatProg.lean LOADS. Nothing in Lean hashes anything: it is a label: what it is worth is what the hold of that sum in a sandbox is worth. -/
noncomputable def Tryz.pinned : Pinned := { name := "ytcbcijibgpaipaagreat", sum := "cb758bf91642f38c5f36c2a43f884ac2448e3e75f056ebfad4ce62884587c456", checked := Tryz.checked }
namespace Rows
def none {H : Type} : Left H := { results := [], args := [] }

/-- 'wardenlaw05.BoundSync': WHATEVER THE INPUT: true; the input reads as it did. -/
def boundSyncSpec : ChangeSpec := { name := "boundSync", fn := fun _ => fun
  | [d1, d2, d3] => { results := [.lit (.bool true)], args := [d1, d2, d3] }
  | _ => none }
def boundSyncRow : OpenClaim := { program := "ytcbcijibgpaipaagreat", sum := "cb758bf91642f38c5f36c2a43f884ac2448e3e75f056ebfad4ce62884587c456", func := "warden/wardenlaw05.BoundSync", spec := "boundSync", inPlace := ["math/bits.Add64"], unfollowed := true, recurses := true, apart := false }
def BoundSyncSaid : Prop := boundSyncRow.holds Tryz.pinned (OpenSpec.ofChange boundSyncSpec)

/-- ITS FALSE NEIGHBOUR: 'it returns false'. Refute it at one input. -/
def boundSyncWrong : ChangeSpec := { name := "boundSync", fn := fun _ => fun
  | [d1, d2, d3] => { results := [.lit (.bool false)], args := [d1, d2, d3] }
  | _ => none }
def BoundSyncWrongFalsely : Prop := boundSyncRow.holds Tryz.pinned (OpenSpec.ofChange boundSyncWrong)

/-- 'wardenlaw05.BoundReckons': WHATEVER THE INPUT: true; the input reads as it did. -/
def boundReckonsSpec : ChangeSpec := { name := "boundReckons", fn := fun _ => fun
  | [d1, d2, d3, d4, d5, d6] => { results := [.lit (.bool true)], args := [d1, d2, d3, d4, d5, d6] }
  | _ => none }
def boundReckonsRow : OpenClaim := { program := "ytcbcijibgpaipaagreat", sum := "cb758bf91642f38c5f36c2a43f884ac2448e3e75f056ebfad4ce62884587c456", func := "warden/wardenlaw05.BoundReckons", spec := "boundReckons", inPlace := ["math/bits.Add64"], unfollowed := true, recurses := true, apart := false }
def BoundReckonsSaid : Prop := boundReckonsRow.holds Tryz.pinned (OpenSpec.ofChange boundReckonsSpec)

/-- ITS FALSE NEIGHBOUR: 'it returns false'. Refute it at one input. -/
def boundReckonsWrong : ChangeSpec := { name := "boundReckons", fn := fun _ => fun
  | [d1, d2, d3, d4, d5, d6] => { results := [.lit (.bool false)], args := [d1, d2, d3, d4, d5, d6] }
  | _ => none }
def BoundReckonsWrongFalsely : Prop := boundReckonsRow.holds Tryz.pinned (OpenSpec.ofChange boundReckonsWrong)

/-- 'wardenlaw06.CondTells': WHATEVER THE INPUT: true; the input reads as it did. -/
def condTellsSpec : ChangeSpec := { name := "condTells", fn := fun _ => fun
  | [d1, d2, d3, d4, d5, d6, d7] => { results := [.lit (.bool true)], args := [d1, d2, d3, d4, d5, d6, d7] }
  | _ => none }
def condTellsRow : OpenClaim := { program := "ytcbcijibgpaipaagreat", sum := "cb758bf91642f38c5f36c2a43f884ac2448e3e75f056ebfad4ce62884587c456", func := "warden/wardenlaw06.CondTells", spec := "condTells", unfollowed := true, recurses := true, apart := false }
def CondTellsSaid : Prop := condTellsRow.holds Tryz.pinned (OpenSpec.ofChange condTellsSpec)

/-- ITS FALSE NEIGHBOUR: 'it returns false'. Refute it at one input. -/
def condTellsWrong : ChangeSpec := { name := "condTells", fn := fun _ => fun
  | [d1, d2, d3, d4, d5, d6, d7] => { results := [.lit (.bool false)], args := [d1, d2, d3, d4, d5, d6, d7] }
  | _ => none }
def CondTellsWrongFalsely : Prop := condTellsRow.holds Tryz.pinned (OpenSpec.ofChange condTellsWrong)

/-- 'wardenlaw06.CondSound': WHATEVER THE INPUT: true; the input reads as it did. -/
def condSoundSpec : ChangeSpec := { name := "condSound", fn := fun _ => fun
  | [d1, d2, d3, d4, d5, d6] => { results := [.lit (.bool true)], args := [d1, d2, d3, d4, d5, d6] }
  | _ => none }
def condSoundRow : OpenClaim := { program := "ytcbcijibgpaipaagreat", sum := "cb758bf91642f38c5f36c2a43f884ac2448e3e75f056ebfad4ce62884587c456", func := "warden/wardenlaw06.CondSound", spec := "condSound", unfollowed := true, recurses := true, apart := false }
def CondSoundSaid : Prop := condSoundRow.holds Tryz.pinned (OpenSpec.ofChange condSoundSpec)

/-- ITS FALSE NEIGHBOUR: 'it returns false'. Refute it at one input. -/
def condSoundWrong : ChangeSpec := { name := "condSound", fn := fun _ => fun
  | [d1, d2, d3, d4, d5, d6] => { results := [.lit (.bool false)], args := [d1, d2, d3, d4, d5, d6] }
  | _ => none }
def CondSoundWrongFalsely : Prop := condSoundRow.holds Tryz.pinned (OpenSpec.ofChange condSoundWrong)

/-- 'wardenlaw06.CondAlone': WHATEVER THE INPUT: true; the input reads as it did. -/
def condAloneSpec : ChangeSpec := { name := "condAlone", fn := fun _ => fun
  | [d1, d2, d3, d4] => { results := [.lit (.bool true)], args := [d1, d2, d3, d4] }
  | _ => none }
def condAloneRow : OpenClaim := { program := "ytcbcijibgpaipaagreat", sum := "cb758bf91642f38c5f36c2a43f884ac2448e3e75f056ebfad4ce62884587c456", func := "warden/wardenlaw06.CondAlone", spec := "condAlone", unfollowed := true, recurses := true, apart := false }
def CondAloneSaid : Prop := condAloneRow.holds Tryz.pinned (OpenSpec.ofChange condAloneSpec)

/-- ITS FALSE NEIGHBOUR: 'it returns false'. Refute it at one input. -/
def condAloneWrong : ChangeSpec := { name := "condAlone", fn := fun _ => fun
  | [d1, d2, d3, d4] => { results := [.lit (.bool false)], args := [d1, d2, d3, d4] }
  | _ => none }
def CondAloneWrongFalsely : Prop := condAloneRow.holds Tryz.pinned (OpenSpec.ofChange condAloneWrong)

/-- 'wardenlaw06.CondTurned': WHATEVER THE INPUT: true; the input reads as it did. -/
def condTurnedSpec : ChangeSpec := { name := "condTurned", fn := fun _ => fun
  | [d1, d2, d3, d4, d5, d6, d7] => { results := [.lit (.bool true)], args := [d1, d2, d3, d4, d5, d6, d7] }
  | _ => none }
def condTurnedRow : OpenClaim := { program := "ytcbcijibgpaipaagreat", sum := "cb758bf91642f38c5f36c2a43f884ac2448e3e75f056ebfad4ce62884587c456", func := "warden/wardenlaw06.CondTurned", spec := "condTurned", unfollowed := true, recurses := true, apart := false }
def CondTurnedSaid : Prop := condTurnedRow.holds Tryz.pinned (OpenSpec.ofChange condTurnedSpec)

/-- ITS FALSE NEIGHBOUR: 'it returns false'. Refute it at one input. -/
def condTurnedWrong : ChangeSpec := { name := "condTurned", fn := fun _ => fun
  | [d1, d2, d3, d4, d5, d6, d7] => { results := [.lit (.bool false)], args := [d1, d2, d3, d4, d5, d6, d7] }
  | _ => none }
def CondTurnedWrongFalsely : Prop := condTurnedRow.holds Tryz.pinned (OpenSpec.ofChange condTurnedWrong)

/- THE SECOND FORM. 'bulk': how many values and letters a reading holds, each counted each time it is reached (what is shared counts as often as it is met; a slice's spare places count too). A statement '..UptoSaid' is the law's where the arguments, and the package variables that the reading takes, are together of bulk at most 1048576: NARROWER than '..Said'. Prove '..Said' where nothing that the law and all that it calls make is longer than what came in: it says more and counts as full. Else prove '..UptoSaid'. A law counts once. -/
mutual
def uptoBulk {H : Type} : DataW H → Nat
  | .lit (.string bytes) => bytes.length + 1
  | .lit _ => 1
  | .nil => 1
  | .ptr d => uptoBulk d + 1
  | .slice elems spare => uptoBulkAll elems + uptoBulkAll spare + 1
  | .agg parts => uptoBulkAll parts + 1
  | .iface _ d => uptoBulk d + 1
  | .map entries => uptoBulkEntries entries + 1
  | .held _ => 1
def uptoBulkAll {H : Type} : List (DataW H) → Nat
  | [] => 0
  | d :: r => uptoBulk d + uptoBulkAll r
def uptoBulkEntries {H : Type} : List (Lit × DataW H) → Nat
  | [] => 0
  | x :: r => uptoBulkEntry x + uptoBulkEntries r
def uptoBulkEntry {H : Type} : Lit × DataW H → Nat
  | (.string bytes, d) => bytes.length + uptoBulk d + 1
  | (_, d) => uptoBulk d + 1
 end
def uptoSmall : (H : Type) → List (DataW H) → Bool := fun _ ds => decide (uptoBulkAll ds ≤ 1048576)
def OpenSpec.upto (s : _root_.Go.ChangeSpec) : _root_.Go.OpenSpec := { _root_.Go.OpenSpec.ofChange s with cond := some uptoSmall }

/-- 'wardenlaw05.BoundSync', WHERE WHAT IT READS IS OF BULK AT MOST 1048576: true; the input reads as it did. -/
def boundSyncUptoRow : OpenClaim := { program := "ytcbcijibgpaipaagreat", sum := "cb758bf91642f38c5f36c2a43f884ac2448e3e75f056ebfad4ce62884587c456", func := "warden/wardenlaw05.BoundSync", spec := "boundSync", inPlace := ["math/bits.Add64"], unfollowed := true, recurses := true, apart := false, narrowed := true }
def BoundSyncUptoSaid : Prop := boundSyncUptoRow.holds Tryz.pinned (OpenSpec.upto boundSyncSpec)

/-- 'wardenlaw05.BoundReckons', WHERE WHAT IT READS IS OF BULK AT MOST 1048576: true; the input reads as it did. -/
def boundReckonsUptoRow : OpenClaim := { program := "ytcbcijibgpaipaagreat", sum := "cb758bf91642f38c5f36c2a43f884ac2448e3e75f056ebfad4ce62884587c456", func := "warden/wardenlaw05.BoundReckons", spec := "boundReckons", inPlace := ["math/bits.Add64"], unfollowed := true, recurses := true, apart := false, narrowed := true }
def BoundReckonsUptoSaid : Prop := boundReckonsUptoRow.holds Tryz.pinned (OpenSpec.upto boundReckonsSpec)

/-- 'wardenlaw06.CondTells', WHERE WHAT IT READS IS OF BULK AT MOST 1048576: true; the input reads as it did. -/
def condTellsUptoRow : OpenClaim := { program := "ytcbcijibgpaipaagreat", sum := "cb758bf91642f38c5f36c2a43f884ac2448e3e75f056ebfad4ce62884587c456", func := "warden/wardenlaw06.CondTells", spec := "condTells", unfollowed := true, recurses := true, apart := false, narrowed := true }
def CondTellsUptoSaid : Prop := condTellsUptoRow.holds Tryz.pinned (OpenSpec.upto condTellsSpec)

/-- 'wardenlaw06.CondSound', WHERE WHAT IT READS IS OF BULK AT MOST 1048576: true; the input reads as it did. -/
def condSoundUptoRow : OpenClaim := { program := "ytcbcijibgpaipaagreat", sum := "cb758bf91642f38c5f36c2a43f884ac2448e3e75f056ebfad4ce62884587c456", func := "warden/wardenlaw06.CondSound", spec := "condSound", unfollowed := true, recurses := true, apart := false, narrowed := true }
def CondSoundUptoSaid : Prop := condSoundUptoRow.holds Tryz.pinned (OpenSpec.upto condSoundSpec)

/-- 'wardenlaw06.CondAlone', WHERE WHAT IT READS IS OF BULK AT MOST 1048576: true; the input reads as it did. -/
def condAloneUptoRow : OpenClaim := { program := "ytcbcijibgpaipaagreat", sum := "cb758bf91642f38c5f36c2a43f884ac2448e3e75f056ebfad4ce62884587c456", func := "warden/wardenlaw06.CondAlone", spec := "condAlone", unfollowed := true, recurses := true, apart := false, narrowed := true }
def CondAloneUptoSaid : Prop := condAloneUptoRow.holds Tryz.pinned (OpenSpec.upto condAloneSpec)

/-- 'wardenlaw06.CondTurned', WHERE WHAT IT READS IS OF BULK AT MOST 1048576: true; the input reads as it did. -/
def condTurnedUptoRow : OpenClaim := { program := "ytcbcijibgpaipaagreat", sum := "cb758bf91642f38c5f36c2a43f884ac2448e3e75f056ebfad4ce62884587c456", func := "warden/wardenlaw06.CondTurned", spec := "condTurned", unfollowed := true, recurses := true, apart := false, narrowed := true }
def CondTurnedUptoSaid : Prop := condTurnedUptoRow.holds Tryz.pinned (OpenSpec.upto condTurnedSpec)

end Rows
end Go.Proofs.YtcbcijibgpaipaaGreat
