/-
  No cell of these rows narrows 'for every input' (looked for: loops, veiled, ifaces, maps, wideKeys, modest, calm, conditions, laid).
  DERIVED. THE GIVEN ROWS OF THIS SEAT. 5 by the template 'for every input the law returns true; each argument reads behind the call as it read before'; 0 by the template 'total and deterministic' (their statements: YthbmgfnifolcbaaTotals.lean).
  GIVEN WITH THE SEED: the statements are not yours to turn. If you find one false, say at which input.
  Laid BY PROGRAM, IN A SANDBOX (cutbox-rows.mjs): the forced cells as the released guide's own fill.sh prints them over the translation 671f4fa68e6621d7… (all of the seat's roots in one cut). By AI agents, Wed Nov 11 2026. No macro, syntax, notation, axiom, sorry.
-/
import Derived.Test.YthbmgfnifolcbaaChecked
import GoSem.Claim
import GoSem.ClaimJoined
import GoSem.ClaimMapViews
import Derived.JoinedTies
import Derived.KernelRfl
namespace Go.Proofs.Ythbmgfnifolcbaa
/- THE CELL 'sum', in the pinned program and in every row, IS THE sha256 OF THE DUMP (.gsa) THAT YthbmgfnifolcbaaProg.lean LOADS. Nothing in Lean hashes anything: it is a label: what it is worth is what the hold of that sum in a sandbox is worth. -/
noncomputable def Try.pinned : Pinned := { name := "ythbmgfnifolcbaa", sum := "671f4fa68e6621d7a39a1d9abba2c1eddb3bfbd6babdc28df77a46de31f3050c", checked := Try.checked }
namespace Rows
def none {H : Type} : Left H := { results := [], args := [] }

/-- 'wardenlaw07.InsnTells': WHATEVER THE INPUT: true; the input reads as it did. -/
def insnTellsSpec : ChangeSpec := { name := "insnTells", fn := fun _ => fun
  | [d1, d2] => { results := [.lit (.bool true)], args := [d1, d2] }
  | _ => none }
def insnTellsRow : OpenClaim := { program := "ythbmgfnifolcbaa", sum := "671f4fa68e6621d7a39a1d9abba2c1eddb3bfbd6babdc28df77a46de31f3050c", func := "warden/wardenlaw07.InsnTells", spec := "insnTells", unfollowed := true, recurses := true, apart := false }
def InsnTellsSaid : Prop := insnTellsRow.holds Try.pinned (OpenSpec.ofChange insnTellsSpec)

/-- ITS FALSE NEIGHBOUR: 'it returns false'. Refute it at one input. -/
def insnTellsWrong : ChangeSpec := { name := "insnTells", fn := fun _ => fun
  | [d1, d2] => { results := [.lit (.bool false)], args := [d1, d2] }
  | _ => none }
def InsnTellsWrongFalsely : Prop := insnTellsRow.holds Try.pinned (OpenSpec.ofChange insnTellsWrong)

/-- 'wardenlaw07.InsnTouches': WHATEVER THE INPUT: true; the input reads as it did. -/
def insnTouchesSpec : ChangeSpec := { name := "insnTouches", fn := fun _ => fun
  | [d] => { results := [.lit (.bool true)], args := [d] }
  | _ => none }
def insnTouchesRow : OpenClaim := { program := "ythbmgfnifolcbaa", sum := "671f4fa68e6621d7a39a1d9abba2c1eddb3bfbd6babdc28df77a46de31f3050c", func := "warden/wardenlaw07.InsnTouches", spec := "insnTouches", unfollowed := true, recurses := true, apart := false }
def InsnTouchesSaid : Prop := insnTouchesRow.holds Try.pinned (OpenSpec.ofChange insnTouchesSpec)

/-- ITS FALSE NEIGHBOUR: 'it returns false'. Refute it at one input. -/
def insnTouchesWrong : ChangeSpec := { name := "insnTouches", fn := fun _ => fun
  | [d] => { results := [.lit (.bool false)], args := [d] }
  | _ => none }
def InsnTouchesWrongFalsely : Prop := insnTouchesRow.holds Try.pinned (OpenSpec.ofChange insnTouchesWrong)

/-- 'wardenlaw07.InsnBack': WHATEVER THE INPUT: true; the input reads as it did. -/
def insnBackSpec : ChangeSpec := { name := "insnBack", fn := fun _ => fun
  | [d1, d2, d3] => { results := [.lit (.bool true)], args := [d1, d2, d3] }
  | _ => none }
def insnBackRow : OpenClaim := { program := "ythbmgfnifolcbaa", sum := "671f4fa68e6621d7a39a1d9abba2c1eddb3bfbd6babdc28df77a46de31f3050c", func := "warden/wardenlaw07.InsnBack", spec := "insnBack", unfollowed := true, recurses := true, apart := false }
def InsnBackSaid : Prop := insnBackRow.holds Try.pinned (OpenSpec.ofChange insnBackSpec)

/-- ITS FALSE NEIGHBOUR: 'it returns false'. Refute it at one input. -/
def insnBackWrong : ChangeSpec := { name := "insnBack", fn := fun _ => fun
  | [d1, d2, d3] => { results := [.lit (.bool false)], args := [d1, d2, d3] }
  | _ => none }
def InsnBackWrongFalsely : Prop := insnBackRow.holds Try.pinned (OpenSpec.ofChange insnBackWrong)

/-- 'wardenlaw07.InsnSound': WHATEVER THE INPUT: true; the input reads as it did. -/
def insnSoundSpec : ChangeSpec := { name := "insnSound", fn := fun _ => fun
  | [d] => { results := [.lit (.bool true)], args := [d] }
  | _ => none }
def insnSoundRow : OpenClaim := { program := "ythbmgfnifolcbaa", sum := "671f4fa68e6621d7a39a1d9abba2c1eddb3bfbd6babdc28df77a46de31f3050c", func := "warden/wardenlaw07.InsnSound", spec := "insnSound", unfollowed := true, recurses := true, apart := false }
def InsnSoundSaid : Prop := insnSoundRow.holds Try.pinned (OpenSpec.ofChange insnSoundSpec)

/-- ITS FALSE NEIGHBOUR: 'it returns false'. Refute it at one input. -/
def insnSoundWrong : ChangeSpec := { name := "insnSound", fn := fun _ => fun
  | [d] => { results := [.lit (.bool false)], args := [d] }
  | _ => none }
def InsnSoundWrongFalsely : Prop := insnSoundRow.holds Try.pinned (OpenSpec.ofChange insnSoundWrong)

/-- 'wardenlaw07.InsnStrict': WHATEVER THE INPUT: true; the input reads as it did. -/
def insnStrictSpec : ChangeSpec := { name := "insnStrict", fn := fun _ => fun
  | [d1, d2, d3, d4] => { results := [.lit (.bool true)], args := [d1, d2, d3, d4] }
  | _ => none }
def insnStrictRow : OpenClaim := { program := "ythbmgfnifolcbaa", sum := "671f4fa68e6621d7a39a1d9abba2c1eddb3bfbd6babdc28df77a46de31f3050c", func := "warden/wardenlaw07.InsnStrict", spec := "insnStrict", unfollowed := true, recurses := true, apart := false }
def InsnStrictSaid : Prop := insnStrictRow.holds Try.pinned (OpenSpec.ofChange insnStrictSpec)

/-- ITS FALSE NEIGHBOUR: 'it returns false'. Refute it at one input. -/
def insnStrictWrong : ChangeSpec := { name := "insnStrict", fn := fun _ => fun
  | [d1, d2, d3, d4] => { results := [.lit (.bool false)], args := [d1, d2, d3, d4] }
  | _ => none }
def InsnStrictWrongFalsely : Prop := insnStrictRow.holds Try.pinned (OpenSpec.ofChange insnStrictWrong)

/- THE SECOND FORM. 'bulk': how many values and letters a reading holds, each counted each time it is reached (what is shared counts as often as it is met; a slice's spare places count too). A statement '..UptoSaid' is the law's where the arguments, and the package variables that the reading takes, are together of bulk at most 1048576: NARROWER than '..Said'. Prove '..Said' where nothing that the law and all that it calls make is longer than what came in: it says more and counts as full. Else prove '..UptoSaid'. A law counts once. -/
mutual
def uptoBulk {H : Type} : DataW H → Nat
  | .lit (.string bytes) => bytes.length + 1
  | .lit _ => 1
  | .nil => 1
  | .ptr d => uptoBulk d + 1
  | .slice elems spare => uptoBulkAll elems + uptoBulkAll spare + 1
  | .agg parts => uptoBulkAll parts + 1
  | .iface _ d => uptoBulk d + 1
  | .map entries => uptoBulkEntries entries + 1
  | .held _ => 1
def uptoBulkAll {H : Type} : List (DataW H) → Nat
  | [] => 0
  | d :: r => uptoBulk d + uptoBulkAll r
def uptoBulkEntries {H : Type} : List (Lit × DataW H) → Nat
  | [] => 0
  | x :: r => uptoBulkEntry x + uptoBulkEntries r
def uptoBulkEntry {H : Type} : Lit × DataW H → Nat
  | (.string bytes, d) => bytes.length + uptoBulk d + 1
  | (_, d) => uptoBulk d + 1
 end
def uptoSmall : (H : Type) → List (DataW H) → Bool := fun _ ds => decide (uptoBulkAll ds ≤ 1048576)
def OpenSpec.upto (s : _root_.Go.ChangeSpec) : _root_.Go.OpenSpec := { _root_.Go.OpenSpec.ofChange s with cond := some uptoSmall }

/-- 'wardenlaw07.InsnTells', WHERE WHAT IT READS IS OF BULK AT MOST 1048576: true; the input reads as it did. -/
def insnTellsUptoRow : OpenClaim := { program := "ythbmgfnifolcbaa", sum := "671f4fa68e6621d7a39a1d9abba2c1eddb3bfbd6babdc28df77a46de31f3050c", func := "warden/wardenlaw07.InsnTells", spec := "insnTells", unfollowed := true, recurses := true, apart := false, narrowed := true }
def InsnTellsUptoSaid : Prop := insnTellsUptoRow.holds Try.pinned (OpenSpec.upto insnTellsSpec)

/-- 'wardenlaw07.InsnTouches', WHERE WHAT IT READS IS OF BULK AT MOST 1048576: true; the input reads as it did. -/
def insnTouchesUptoRow : OpenClaim := { program := "ythbmgfnifolcbaa", sum := "671f4fa68e6621d7a39a1d9abba2c1eddb3bfbd6babdc28df77a46de31f3050c", func := "warden/wardenlaw07.InsnTouches", spec := "insnTouches", unfollowed := true, recurses := true, apart := false, narrowed := true }
def InsnTouchesUptoSaid : Prop := insnTouchesUptoRow.holds Try.pinned (OpenSpec.upto insnTouchesSpec)

/-- 'wardenlaw07.InsnBack', WHERE WHAT IT READS IS OF BULK AT MOST 1048576: true; the input reads as it did. -/
def insnBackUptoRow : OpenClaim := { program := "ythbmgfnifolcbaa", sum := "671f4fa68e6621d7a39a1d9abba2c1eddb3bfbd6babdc28df77a46de31f3050c", func := "warden/wardenlaw07.InsnBack", spec := "insnBack", unfollowed := true, recurses := true, apart := false, narrowed := true }
def InsnBackUptoSaid : Prop := insnBackUptoRow.holds Try.pinned (OpenSpec.upto insnBackSpec)

/-- 'wardenlaw07.InsnSound', WHERE WHAT IT READS IS OF BULK AT MOST 1048576: true; the input reads as it did. -/
def insnSoundUptoRow : OpenClaim := { program := "ythbmgfnifolcbaa", sum := "671f4fa68e6621d7a39a1d9abba2c1eddb3bfbd6babdc28df77a46de31f3050c", func := "warden/wardenlaw07.InsnSound", spec := "insnSound", unfollowed := true, recurses := true, apart := false, narrowed := true }
def InsnSoundUptoSaid : Prop := insnSoundUptoRow.holds Try.pinned (OpenSpec.upto insnSoundSpec)

/-- 'wardenlaw07.InsnStrict', WHERE WHAT IT READS IS OF BULK AT MOST 1048576: true; the input reads as it did. -/
def insnStrictUptoRow : OpenClaim := { program := "ythbmgfnifolcbaa", sum := "671f4fa68e6621d7a39a1d9abba2c1eddb3bfbd6babdc28df77a46de31f3050c", func := "warden/wardenlaw07.InsnStrict", spec := "insnStrict", unfollowed := true, recurses := true, apart := false, narrowed := true }
def InsnStrictUptoSaid : Prop := insnStrictUptoRow.holds Try.pinned (OpenSpec.upto insnStrictSpec)

end Rows
end Go.Proofs.Ythbmgfnifolcbaa
