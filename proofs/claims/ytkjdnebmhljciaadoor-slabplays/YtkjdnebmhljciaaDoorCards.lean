/-
  DERIVED. GIVEN WITH THE SEED: THE CARDS: each row of YtkjdnebmhljciaaDoorRows.lean that lists a variable, with what it lists TIED to the program's text (the seventh form; the later family's looks); each row that meets fmt, with fmt's text TOLD by the authors' own Lean function (tested against real Go, not proved from fmt's source: count such statements apart). THE CARD IS WHAT COUNTS. Prove the row's statement (the work); the ties are given (YtkjdnebmhljciaaDoorTie.lean); close each card by the builder's one call (the guide's Derived/Test/ToyasCard.lean, 'card_holds'). Laid BY PROGRAM, IN A SANDBOX (cutbox-door.mjs). By AI agents, Wed Nov 11 2026. No macro, syntax, notation, axiom, sorry.
-/
import Derived.Test.YtkjdnebmhljciaaDoorRows
import GoSem.ClaimSeven
namespace Go.Proofs.YtkjdnebmhljciaaDoor
namespace Rows

/-- THE TIED CARD OF 'wardenlaw12.SlabPlays'. -/
def slabPlaysCard : Claim7 := { stood := { row := slabPlaysRow, standIns := [], harness := (true, "d08cc78eabc309313952ab51cf6bb01585a3f0dccbd52a6795d3e19212e06ae1"), looks := false }, kinds := [], alts := [], laidByText := true, laidKinds := [.data], laidTests := true, laidLooks := .later }
def SlabPlaysCardSaid : Prop := Claim7.holds Tryd.pinned (.plain (OpenSpec.ofChange slabPlaysSpec)) slabPlaysCard

/-- THE TIED CARD OF 'wardenlaw12.SlabRoom'. -/
def slabRoomCard : Claim7 := { stood := { row := slabRoomRow, standIns := [], harness := (true, "d08cc78eabc309313952ab51cf6bb01585a3f0dccbd52a6795d3e19212e06ae1"), looks := false }, kinds := [], alts := [], laidByText := true, laidKinds := [.data], laidTests := true, laidLooks := .later }
def SlabRoomCardSaid : Prop := Claim7.holds Tryd.pinned (.plain (OpenSpec.ofChange slabRoomSpec)) slabRoomCard

/-- THE TIED CARD OF 'wardenlaw12.SlabApart'. -/
def slabApartCard : Claim7 := { stood := { row := slabApartRow, standIns := [], harness := (true, "d08cc78eabc309313952ab51cf6bb01585a3f0dccbd52a6795d3e19212e06ae1"), looks := false }, kinds := [], alts := [], laidByText := true, laidKinds := [.data], laidTests := true, laidLooks := .later }
def SlabApartCardSaid : Prop := Claim7.holds Tryd.pinned (.plain (OpenSpec.ofChange slabApartSpec)) slabApartCard

/-- THE TIED CARD OF 'wardenlaw12.SlabNone'. -/
def slabNoneCard : Claim7 := { stood := { row := slabNoneRow, standIns := [], harness := (true, "d08cc78eabc309313952ab51cf6bb01585a3f0dccbd52a6795d3e19212e06ae1"), looks := false }, kinds := [], alts := [], laidByText := true, laidKinds := [.data], laidTests := true, laidLooks := .later }
def SlabNoneCardSaid : Prop := Claim7.holds Tryd.pinned (.plain (OpenSpec.ofChange slabNoneSpec)) slabNoneCard

/-- THE TIED CARD OF 'wardenlaw12.SlabReuse'. -/
def slabReuseCard : Claim7 := { stood := { row := slabReuseRow, standIns := [], harness := (true, "d08cc78eabc309313952ab51cf6bb01585a3f0dccbd52a6795d3e19212e06ae1"), looks := false }, kinds := [], alts := [], laidByText := true, laidKinds := [.data], laidTests := true, laidLooks := .later }
def SlabReuseCardSaid : Prop := Claim7.holds Tryd.pinned (.plain (OpenSpec.ofChange slabReuseSpec)) slabReuseCard

/-- THE SECOND FORM's CARD OF 'wardenlaw12.SlabPlays'. -/
def slabPlaysUptoCard : Claim7 := { stood := { row := slabPlaysUptoRow, standIns := [], harness := (true, "d08cc78eabc309313952ab51cf6bb01585a3f0dccbd52a6795d3e19212e06ae1"), looks := false }, kinds := [], alts := [], laidByText := true, laidKinds := [.data], laidTests := true, laidLooks := .later }
def SlabPlaysUptoCardSaid : Prop := Claim7.holds Tryd.pinned (.plain (OpenSpec.upto slabPlaysSpec)) slabPlaysUptoCard

/-- THE SECOND FORM's CARD OF 'wardenlaw12.SlabRoom'. -/
def slabRoomUptoCard : Claim7 := { stood := { row := slabRoomUptoRow, standIns := [], harness := (true, "d08cc78eabc309313952ab51cf6bb01585a3f0dccbd52a6795d3e19212e06ae1"), looks := false }, kinds := [], alts := [], laidByText := true, laidKinds := [.data], laidTests := true, laidLooks := .later }
def SlabRoomUptoCardSaid : Prop := Claim7.holds Tryd.pinned (.plain (OpenSpec.upto slabRoomSpec)) slabRoomUptoCard

/-- THE SECOND FORM's CARD OF 'wardenlaw12.SlabApart'. -/
def slabApartUptoCard : Claim7 := { stood := { row := slabApartUptoRow, standIns := [], harness := (true, "d08cc78eabc309313952ab51cf6bb01585a3f0dccbd52a6795d3e19212e06ae1"), looks := false }, kinds := [], alts := [], laidByText := true, laidKinds := [.data], laidTests := true, laidLooks := .later }
def SlabApartUptoCardSaid : Prop := Claim7.holds Tryd.pinned (.plain (OpenSpec.upto slabApartSpec)) slabApartUptoCard

/-- THE SECOND FORM's CARD OF 'wardenlaw12.SlabNone'. -/
def slabNoneUptoCard : Claim7 := { stood := { row := slabNoneUptoRow, standIns := [], harness := (true, "d08cc78eabc309313952ab51cf6bb01585a3f0dccbd52a6795d3e19212e06ae1"), looks := false }, kinds := [], alts := [], laidByText := true, laidKinds := [.data], laidTests := true, laidLooks := .later }
def SlabNoneUptoCardSaid : Prop := Claim7.holds Tryd.pinned (.plain (OpenSpec.upto slabNoneSpec)) slabNoneUptoCard

/-- THE SECOND FORM's CARD OF 'wardenlaw12.SlabReuse'. -/
def slabReuseUptoCard : Claim7 := { stood := { row := slabReuseUptoRow, standIns := [], harness := (true, "d08cc78eabc309313952ab51cf6bb01585a3f0dccbd52a6795d3e19212e06ae1"), looks := false }, kinds := [], alts := [], laidByText := true, laidKinds := [.data], laidTests := true, laidLooks := .later }
def SlabReuseUptoCardSaid : Prop := Claim7.holds Tryd.pinned (.plain (OpenSpec.upto slabReuseSpec)) slabReuseUptoCard
end Rows
end Go.Proofs.YtkjdnebmhljciaaDoor
