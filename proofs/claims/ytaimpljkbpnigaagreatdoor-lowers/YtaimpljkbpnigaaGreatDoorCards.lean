/-
  DERIVED. GIVEN WITH THE SEED: THE CARDS: each row of YtaimpljkbpnigaaGreatDoorRows.lean that lists a variable, with what it lists TIED to the program's text (the seventh form; the later family's looks); each row that meets fmt, with fmt's text TOLD by the authors' own Lean function (tested against real Go, not proved from fmt's source: count such statements apart). THE CARD IS WHAT COUNTS. Prove the row's statement (the work); the ties are given (YtaimpljkbpnigaaGreatDoorTie.lean); close each card by the builder's one call (the guide's Derived/Test/ToyasCard.lean, 'card_holds'). Laid BY PROGRAM, IN A SANDBOX (cutbox-door.mjs). By AI agents, Wed Nov 11 2026. No macro, syntax, notation, axiom, sorry.
-/
import Derived.Test.YtaimpljkbpnigaaGreatDoorRows
import GoSem.ClaimSeven
namespace Go.Proofs.YtaimpljkbpnigaaGreatDoor
namespace Rows

/-- THE TIED CARD OF 'swagelaw11.Lowers'. -/
def lowersCard : Claim7 := { stood := { row := lowersRow, standIns := [], harness := (true, "51ad92c745e9affde3203d71f52c7c02a7ce038a9bed1ac76f940f19edd66073"), looks := true }, kinds := [], alts := [], laidByText := true, laidKinds := [.data, .data, .data, .handle, .sentinel, .sentinel], laidTests := true, laidLooks := .later }
def LowersCardSaid : Prop := Claim7.holds Tryz.pinned (.plain (OpenSpec.ofChange lowersSpec)) lowersCard

/-- THE TIED CARD OF 'swagelaw11.LowerMay'. -/
def lowerMayCard : Claim7 := { stood := { row := lowerMayRow, standIns := [], harness := (true, "51ad92c745e9affde3203d71f52c7c02a7ce038a9bed1ac76f940f19edd66073"), looks := true }, kinds := [], alts := [], laidByText := true, laidKinds := [.data, .data, .data, .handle, .sentinel, .sentinel], laidTests := true, laidLooks := .later }
def LowerMayCardSaid : Prop := Claim7.holds Tryz.pinned (.plain (OpenSpec.ofChange lowerMaySpec)) lowerMayCard

/-- THE TIED CARD OF 'swagelaw11.LowerKinds'. -/
def lowerKindsCard : Claim7 := { stood := { row := lowerKindsRow, standIns := [], harness := (true, "51ad92c745e9affde3203d71f52c7c02a7ce038a9bed1ac76f940f19edd66073"), looks := true }, kinds := [], alts := [], laidByText := true, laidKinds := [.data, .data, .data, .handle, .sentinel, .sentinel], laidTests := true, laidLooks := .later }
def LowerKindsCardSaid : Prop := Claim7.holds Tryz.pinned (.plain (OpenSpec.ofChange lowerKindsSpec)) lowerKindsCard

/-- THE TIED CARD OF 'swagelaw11.LowerBack'. -/
def lowerBackCard : Claim7 := { stood := { row := lowerBackRow, standIns := [], harness := (true, "51ad92c745e9affde3203d71f52c7c02a7ce038a9bed1ac76f940f19edd66073"), looks := true }, kinds := [], alts := [], laidByText := true, laidKinds := [.data, .data, .data, .handle, .sentinel, .sentinel], laidTests := true, laidLooks := .later }
def LowerBackCardSaid : Prop := Claim7.holds Tryz.pinned (.plain (OpenSpec.ofChange lowerBackSpec)) lowerBackCard

/-- THE SECOND FORM's CARD OF 'swagelaw11.Lowers'. -/
def lowersUptoCard : Claim7 := { stood := { row := lowersUptoRow, standIns := [], harness := (true, "51ad92c745e9affde3203d71f52c7c02a7ce038a9bed1ac76f940f19edd66073"), looks := true }, kinds := [], alts := [], laidByText := true, laidKinds := [.data, .data, .data, .handle, .sentinel, .sentinel], laidTests := true, laidLooks := .later }
def LowersUptoCardSaid : Prop := Claim7.holds Tryz.pinned (.plain (OpenSpec.upto lowersSpec)) lowersUptoCard

/-- THE SECOND FORM's CARD OF 'swagelaw11.LowerMay'. -/
def lowerMayUptoCard : Claim7 := { stood := { row := lowerMayUptoRow, standIns := [], harness := (true, "51ad92c745e9affde3203d71f52c7c02a7ce038a9bed1ac76f940f19edd66073"), looks := true }, kinds := [], alts := [], laidByText := true, laidKinds := [.data, .data, .data, .handle, .sentinel, .sentinel], laidTests := true, laidLooks := .later }
def LowerMayUptoCardSaid : Prop := Claim7.holds Tryz.pinned (.plain (OpenSpec.upto lowerMaySpec)) lowerMayUptoCard

/-- THE SECOND FORM's CARD OF 'swagelaw11.LowerKinds'. -/
def lowerKindsUptoCard : Claim7 := { stood := { row := lowerKindsUptoRow, standIns := [], harness := (true, "51ad92c745e9affde3203d71f52c7c02a7ce038a9bed1ac76f940f19edd66073"), looks := true }, kinds := [], alts := [], laidByText := true, laidKinds := [.data, .data, .data, .handle, .sentinel, .sentinel], laidTests := true, laidLooks := .later }
def LowerKindsUptoCardSaid : Prop := Claim7.holds Tryz.pinned (.plain (OpenSpec.upto lowerKindsSpec)) lowerKindsUptoCard

/-- THE SECOND FORM's CARD OF 'swagelaw11.LowerBack'. -/
def lowerBackUptoCard : Claim7 := { stood := { row := lowerBackUptoRow, standIns := [], harness := (true, "51ad92c745e9affde3203d71f52c7c02a7ce038a9bed1ac76f940f19edd66073"), looks := true }, kinds := [], alts := [], laidByText := true, laidKinds := [.data, .data, .data, .handle, .sentinel, .sentinel], laidTests := true, laidLooks := .later }
def LowerBackUptoCardSaid : Prop := Claim7.holds Tryz.pinned (.plain (OpenSpec.upto lowerBackSpec)) lowerBackUptoCard
end Rows
end Go.Proofs.YtaimpljkbpnigaaGreatDoor
