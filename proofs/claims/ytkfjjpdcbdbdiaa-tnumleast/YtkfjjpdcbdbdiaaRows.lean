/-
  No cell of these rows narrows 'for every input' (looked for: loops, veiled, ifaces, maps, wideKeys, modest, calm, conditions, laid).
  DERIVED. THE GIVEN ROWS OF THIS SEAT. 6 by the template 'for every input the law returns true; each argument reads behind the call as it read before'; 0 by the template 'total and deterministic' (their statements: YtkfjjpdcbdbdiaaTotals.lean).
  GIVEN WITH THE SEED: the statements are not yours to turn. If you find one false, say at which input.
  Laid BY PROGRAM, IN A SANDBOX (cutbox-rows.mjs): the forced cells as the released guide's own fill.sh prints them over the translation 4166c334934994df… (all of the seat's roots in one cut). By AI agents, Wed Nov 11 2026. No macro, syntax, notation, axiom, sorry.
-/
import Derived.Test.YtkfjjpdcbdbdiaaChecked
import GoSem.Claim
import GoSem.ClaimJoined
import GoSem.ClaimMapViews
import Derived.JoinedTies
import Derived.KernelRfl
namespace Go.Proofs.Ytkfjjpdcbdbdiaa
/- THE CELL 'sum', in the pinned program and in every row, IS THE sha256 OF THE DUMP (.gsa) THAT YtkfjjpdcbdbdiaaProg.lean LOADS. Nothing in Lean hashes anything: it is a label: what it is worth is what the hold of that sum in a sandbox is worth. -/
noncomputable def Try.pinned : Pinned := { name := "ytkfjjpdcbdbdiaa", sum := "4166c334934994df21df0627a123db5d8f5cbc13973caf6f2e29020eb8cc289a", checked := Try.checked }
namespace Rows
def none {H : Type} : Left H := { results := [], args := [] }

/-- 'wardenlaw03.TnumLeast': WHATEVER THE INPUT: true; the input reads as it did. -/
def tnumLeastSpec : ChangeSpec := { name := "tnumLeast", fn := fun _ => fun
  | [d1, d2, d3, d4] => { results := [.lit (.bool true)], args := [d1, d2, d3, d4] }
  | _ => none }
def tnumLeastRow : OpenClaim := { program := "ytkfjjpdcbdbdiaa", sum := "4166c334934994df21df0627a123db5d8f5cbc13973caf6f2e29020eb8cc289a", func := "warden/wardenlaw03.TnumLeast", spec := "tnumLeast", apart := false }
def TnumLeastSaid : Prop := tnumLeastRow.holds Try.pinned (OpenSpec.ofChange tnumLeastSpec)

/-- ITS FALSE NEIGHBOUR: 'it returns false'. Refute it at one input. -/
def tnumLeastWrong : ChangeSpec := { name := "tnumLeast", fn := fun _ => fun
  | [d1, d2, d3, d4] => { results := [.lit (.bool false)], args := [d1, d2, d3, d4] }
  | _ => none }
def TnumLeastWrongFalsely : Prop := tnumLeastRow.holds Try.pinned (OpenSpec.ofChange tnumLeastWrong)

/-- 'wardenlaw04.SpanSets': WHATEVER THE INPUT: true; the input reads as it did. -/
def spanSetsSpec : ChangeSpec := { name := "spanSets", fn := fun _ => fun
  | [d1, d2, d3, d4, d5] => { results := [.lit (.bool true)], args := [d1, d2, d3, d4, d5] }
  | _ => none }
def spanSetsRow : OpenClaim := { program := "ytkfjjpdcbdbdiaa", sum := "4166c334934994df21df0627a123db5d8f5cbc13973caf6f2e29020eb8cc289a", func := "warden/wardenlaw04.SpanSets", spec := "spanSets", inPlace := ["math/bits.Add64"], unfollowed := true, recurses := true, apart := false }
def SpanSetsSaid : Prop := spanSetsRow.holds Try.pinned (OpenSpec.ofChange spanSetsSpec)

/-- ITS FALSE NEIGHBOUR: 'it returns false'. Refute it at one input. -/
def spanSetsWrong : ChangeSpec := { name := "spanSets", fn := fun _ => fun
  | [d1, d2, d3, d4, d5] => { results := [.lit (.bool false)], args := [d1, d2, d3, d4, d5] }
  | _ => none }
def SpanSetsWrongFalsely : Prop := spanSetsRow.holds Try.pinned (OpenSpec.ofChange spanSetsWrong)

/-- 'wardenlaw04.SpanReckons': WHATEVER THE INPUT: true; the input reads as it did. -/
def spanReckonsSpec : ChangeSpec := { name := "spanReckons", fn := fun _ => fun
  | [d1, d2, d3] => { results := [.lit (.bool true)], args := [d1, d2, d3] }
  | _ => none }
def spanReckonsRow : OpenClaim := { program := "ytkfjjpdcbdbdiaa", sum := "4166c334934994df21df0627a123db5d8f5cbc13973caf6f2e29020eb8cc289a", func := "warden/wardenlaw04.SpanReckons", spec := "spanReckons", inPlace := ["math/bits.Add64"], unfollowed := true, recurses := true, apart := false }
def SpanReckonsSaid : Prop := spanReckonsRow.holds Try.pinned (OpenSpec.ofChange spanReckonsSpec)

/-- ITS FALSE NEIGHBOUR: 'it returns false'. Refute it at one input. -/
def spanReckonsWrong : ChangeSpec := { name := "spanReckons", fn := fun _ => fun
  | [d1, d2, d3] => { results := [.lit (.bool false)], args := [d1, d2, d3] }
  | _ => none }
def SpanReckonsWrongFalsely : Prop := spanReckonsRow.holds Try.pinned (OpenSpec.ofChange spanReckonsWrong)

/-- 'wardenlaw04.SpanSigns': WHATEVER THE INPUT: true; the input reads as it did. -/
def spanSignsSpec : ChangeSpec := { name := "spanSigns", fn := fun _ => fun
  | [d1, d2, d3, d4] => { results := [.lit (.bool true)], args := [d1, d2, d3, d4] }
  | _ => none }
def spanSignsRow : OpenClaim := { program := "ytkfjjpdcbdbdiaa", sum := "4166c334934994df21df0627a123db5d8f5cbc13973caf6f2e29020eb8cc289a", func := "warden/wardenlaw04.SpanSigns", spec := "spanSigns", inPlace := ["math/bits.Add64"], unfollowed := true, recurses := true, apart := false }
def SpanSignsSaid : Prop := spanSignsRow.holds Try.pinned (OpenSpec.ofChange spanSignsSpec)

/-- ITS FALSE NEIGHBOUR: 'it returns false'. Refute it at one input. -/
def spanSignsWrong : ChangeSpec := { name := "spanSigns", fn := fun _ => fun
  | [d1, d2, d3, d4] => { results := [.lit (.bool false)], args := [d1, d2, d3, d4] }
  | _ => none }
def SpanSignsWrongFalsely : Prop := spanSignsRow.holds Try.pinned (OpenSpec.ofChange spanSignsWrong)

/-- 'wardenlaw04.SpanSound': WHATEVER THE INPUT: true; the input reads as it did. -/
def spanSoundSpec : ChangeSpec := { name := "spanSound", fn := fun _ => fun
  | [d1, d2, d3, d4, d5, d6, d7] => { results := [.lit (.bool true)], args := [d1, d2, d3, d4, d5, d6, d7] }
  | _ => none }
def spanSoundRow : OpenClaim := { program := "ytkfjjpdcbdbdiaa", sum := "4166c334934994df21df0627a123db5d8f5cbc13973caf6f2e29020eb8cc289a", func := "warden/wardenlaw04.SpanSound", spec := "spanSound", inPlace := ["math/bits.Add64"], unfollowed := true, recurses := true, apart := false }
def SpanSoundSaid : Prop := spanSoundRow.holds Try.pinned (OpenSpec.ofChange spanSoundSpec)

/-- ITS FALSE NEIGHBOUR: 'it returns false'. Refute it at one input. -/
def spanSoundWrong : ChangeSpec := { name := "spanSound", fn := fun _ => fun
  | [d1, d2, d3, d4, d5, d6, d7] => { results := [.lit (.bool false)], args := [d1, d2, d3, d4, d5, d6, d7] }
  | _ => none }
def SpanSoundWrongFalsely : Prop := spanSoundRow.holds Try.pinned (OpenSpec.ofChange spanSoundWrong)

/-- 'wardenlaw04.SpanSigned': WHATEVER THE INPUT: true; the input reads as it did. -/
def spanSignedSpec : ChangeSpec := { name := "spanSigned", fn := fun _ => fun
  | [d1, d2, d3, d4, d5, d6, d7] => { results := [.lit (.bool true)], args := [d1, d2, d3, d4, d5, d6, d7] }
  | _ => none }
def spanSignedRow : OpenClaim := { program := "ytkfjjpdcbdbdiaa", sum := "4166c334934994df21df0627a123db5d8f5cbc13973caf6f2e29020eb8cc289a", func := "warden/wardenlaw04.SpanSigned", spec := "spanSigned", inPlace := ["math/bits.Add64"], unfollowed := true, recurses := true, apart := false }
def SpanSignedSaid : Prop := spanSignedRow.holds Try.pinned (OpenSpec.ofChange spanSignedSpec)

/-- ITS FALSE NEIGHBOUR: 'it returns false'. Refute it at one input. -/
def spanSignedWrong : ChangeSpec := { name := "spanSigned", fn := fun _ => fun
  | [d1, d2, d3, d4, d5, d6, d7] => { results := [.lit (.bool false)], args := [d1, d2, d3, d4, d5, d6, d7] }
  | _ => none }
def SpanSignedWrongFalsely : Prop := spanSignedRow.holds Try.pinned (OpenSpec.ofChange spanSignedWrong)

/- THE SECOND FORM. 'bulk': how many values and letters a reading holds, each counted each time it is reached (what is shared counts as often as it is met; a slice's spare places count too). A statement '..UptoSaid' is the law's where the arguments, and the package variables that the reading takes, are together of bulk at most 1048576: NARROWER than '..Said'. Prove '..Said' where nothing that the law and all that it calls make is longer than what came in: it says more and counts as full. Else prove '..UptoSaid'. A law counts once. -/
mutual
def uptoBulk {H : Type} : DataW H → Nat
  | .lit (.string bytes) => bytes.length + 1
  | .lit _ => 1
  | .nil => 1
  | .ptr d => uptoBulk d + 1
  | .slice elems spare => uptoBulkAll elems + uptoBulkAll spare + 1
  | .agg parts => uptoBulkAll parts + 1
  | .iface _ d => uptoBulk d + 1
  | .map entries => uptoBulkEntries entries + 1
  | .held _ => 1
def uptoBulkAll {H : Type} : List (DataW H) → Nat
  | [] => 0
  | d :: r => uptoBulk d + uptoBulkAll r
def uptoBulkEntries {H : Type} : List (Lit × DataW H) → Nat
  | [] => 0
  | x :: r => uptoBulkEntry x + uptoBulkEntries r
def uptoBulkEntry {H : Type} : Lit × DataW H → Nat
  | (.string bytes, d) => bytes.length + uptoBulk d + 1
  | (_, d) => uptoBulk d + 1
 end
def uptoSmall : (H : Type) → List (DataW H) → Bool := fun _ ds => decide (uptoBulkAll ds ≤ 1048576)
def OpenSpec.upto (s : _root_.Go.ChangeSpec) : _root_.Go.OpenSpec := { _root_.Go.OpenSpec.ofChange s with cond := some uptoSmall }

/-- 'wardenlaw03.TnumLeast', WHERE WHAT IT READS IS OF BULK AT MOST 1048576: true; the input reads as it did. -/
def tnumLeastUptoRow : OpenClaim := { program := "ytkfjjpdcbdbdiaa", sum := "4166c334934994df21df0627a123db5d8f5cbc13973caf6f2e29020eb8cc289a", func := "warden/wardenlaw03.TnumLeast", spec := "tnumLeast", apart := false, narrowed := true }
def TnumLeastUptoSaid : Prop := tnumLeastUptoRow.holds Try.pinned (OpenSpec.upto tnumLeastSpec)

/-- 'wardenlaw04.SpanSets', WHERE WHAT IT READS IS OF BULK AT MOST 1048576: true; the input reads as it did. -/
def spanSetsUptoRow : OpenClaim := { program := "ytkfjjpdcbdbdiaa", sum := "4166c334934994df21df0627a123db5d8f5cbc13973caf6f2e29020eb8cc289a", func := "warden/wardenlaw04.SpanSets", spec := "spanSets", inPlace := ["math/bits.Add64"], unfollowed := true, recurses := true, apart := false, narrowed := true }
def SpanSetsUptoSaid : Prop := spanSetsUptoRow.holds Try.pinned (OpenSpec.upto spanSetsSpec)

/-- 'wardenlaw04.SpanReckons', WHERE WHAT IT READS IS OF BULK AT MOST 1048576: true; the input reads as it did. -/
def spanReckonsUptoRow : OpenClaim := { program := "ytkfjjpdcbdbdiaa", sum := "4166c334934994df21df0627a123db5d8f5cbc13973caf6f2e29020eb8cc289a", func := "warden/wardenlaw04.SpanReckons", spec := "spanReckons", inPlace := ["math/bits.Add64"], unfollowed := true, recurses := true, apart := false, narrowed := true }
def SpanReckonsUptoSaid : Prop := spanReckonsUptoRow.holds Try.pinned (OpenSpec.upto spanReckonsSpec)

/-- 'wardenlaw04.SpanSigns', WHERE WHAT IT READS IS OF BULK AT MOST 1048576: true; the input reads as it did. -/
def spanSignsUptoRow : OpenClaim := { program := "ytkfjjpdcbdbdiaa", sum := "4166c334934994df21df0627a123db5d8f5cbc13973caf6f2e29020eb8cc289a", func := "warden/wardenlaw04.SpanSigns", spec := "spanSigns", inPlace := ["math/bits.Add64"], unfollowed := true, recurses := true, apart := false, narrowed := true }
def SpanSignsUptoSaid : Prop := spanSignsUptoRow.holds Try.pinned (OpenSpec.upto spanSignsSpec)

/-- 'wardenlaw04.SpanSound', WHERE WHAT IT READS IS OF BULK AT MOST 1048576: true; the input reads as it did. -/
def spanSoundUptoRow : OpenClaim := { program := "ytkfjjpdcbdbdiaa", sum := "4166c334934994df21df0627a123db5d8f5cbc13973caf6f2e29020eb8cc289a", func := "warden/wardenlaw04.SpanSound", spec := "spanSound", inPlace := ["math/bits.Add64"], unfollowed := true, recurses := true, apart := false, narrowed := true }
def SpanSoundUptoSaid : Prop := spanSoundUptoRow.holds Try.pinned (OpenSpec.upto spanSoundSpec)

/-- 'wardenlaw04.SpanSigned', WHERE WHAT IT READS IS OF BULK AT MOST 1048576: true; the input reads as it did. -/
def spanSignedUptoRow : OpenClaim := { program := "ytkfjjpdcbdbdiaa", sum := "4166c334934994df21df0627a123db5d8f5cbc13973caf6f2e29020eb8cc289a", func := "warden/wardenlaw04.SpanSigned", spec := "spanSigned", inPlace := ["math/bits.Add64"], unfollowed := true, recurses := true, apart := false, narrowed := true }
def SpanSignedUptoSaid : Prop := spanSignedUptoRow.holds Try.pinned (OpenSpec.upto spanSignedSpec)

end Rows
end Go.Proofs.Ytkfjjpdcbdbdiaa
