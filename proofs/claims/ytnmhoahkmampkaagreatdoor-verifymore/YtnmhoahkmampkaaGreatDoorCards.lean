/-
  DERIVED. GIVEN WITH THE SEED: THE CARDS: each row of YtnmhoahkmampkaaGreatDoorRows.lean that lists a variable, with what it lists TIED to the program's text (the seventh form; the later family's looks); each row that meets fmt, with fmt's text TOLD by the authors' own Lean function (tested against real Go, not proved from fmt's source: count such statements apart). THE CARD IS WHAT COUNTS. Prove the row's statement (the work); the ties are given (YtnmhoahkmampkaaGreatDoorTie.lean); close each card by the builder's one call (the guide's Derived/Test/ToyasCard.lean, 'card_holds'). Laid BY PROGRAM, IN A SANDBOX (cutbox-door.mjs). By AI agents, Wed Nov 11 2026. No macro, syntax, notation, axiom, sorry.
-/
import Derived.Test.YtnmhoahkmampkaaGreatDoorRows
import GoSem.ClaimSeven
namespace Go.Proofs.YtnmhoahkmampkaaGreatDoor
namespace Rows

/-- THE TIED CARD OF 'swagelaw5.Verifies'. -/
def verifiesCard : Claim7 := { stood := { row := verifiesRow, standIns := [], harness := (true, "10089f75fa0ab85cfc1497fa887a67bd97855363fd0769559cb79d63b501dd70"), looks := true }, kinds := [], alts := [], laidByText := true, laidKinds := [.data, .data, .data, .handle, .sentinel, .sentinel], laidTests := true, laidLooks := .later }
def VerifiesCardSaid : Prop := Claim7.holds Tryz.pinned (.plain (OpenSpec.ofChange verifiesSpec)) verifiesCard

/-- THE TIED CARD OF 'swagelaw5.VerifyFlows'. -/
def verifyFlowsCard : Claim7 := { stood := { row := verifyFlowsRow, standIns := [], harness := (true, "10089f75fa0ab85cfc1497fa887a67bd97855363fd0769559cb79d63b501dd70"), looks := true }, kinds := [], alts := [], laidByText := true, laidKinds := [.data, .data, .data, .handle, .sentinel, .sentinel], laidTests := true, laidLooks := .later }
def VerifyFlowsCardSaid : Prop := Claim7.holds Tryz.pinned (.plain (OpenSpec.ofChange verifyFlowsSpec)) verifyFlowsCard

/-- THE TIED CARD OF 'swagelaw5.VerifyMore'. -/
def verifyMoreCard : Claim7 := { stood := { row := verifyMoreRow, standIns := [], harness := (true, "10089f75fa0ab85cfc1497fa887a67bd97855363fd0769559cb79d63b501dd70"), looks := true }, kinds := [], alts := [], laidByText := true, laidKinds := [.data, .data, .data, .handle, .sentinel, .sentinel], laidTests := true, laidLooks := .later }
def VerifyMoreCardSaid : Prop := Claim7.holds Tryz.pinned (.plain (OpenSpec.ofChange verifyMoreSpec)) verifyMoreCard

/-- THE SECOND FORM's CARD OF 'swagelaw5.Verifies'. -/
def verifiesUptoCard : Claim7 := { stood := { row := verifiesUptoRow, standIns := [], harness := (true, "10089f75fa0ab85cfc1497fa887a67bd97855363fd0769559cb79d63b501dd70"), looks := true }, kinds := [], alts := [], laidByText := true, laidKinds := [.data, .data, .data, .handle, .sentinel, .sentinel], laidTests := true, laidLooks := .later }
def VerifiesUptoCardSaid : Prop := Claim7.holds Tryz.pinned (.plain (OpenSpec.upto verifiesSpec)) verifiesUptoCard

/-- THE SECOND FORM's CARD OF 'swagelaw5.VerifyFlows'. -/
def verifyFlowsUptoCard : Claim7 := { stood := { row := verifyFlowsUptoRow, standIns := [], harness := (true, "10089f75fa0ab85cfc1497fa887a67bd97855363fd0769559cb79d63b501dd70"), looks := true }, kinds := [], alts := [], laidByText := true, laidKinds := [.data, .data, .data, .handle, .sentinel, .sentinel], laidTests := true, laidLooks := .later }
def VerifyFlowsUptoCardSaid : Prop := Claim7.holds Tryz.pinned (.plain (OpenSpec.upto verifyFlowsSpec)) verifyFlowsUptoCard

/-- THE SECOND FORM's CARD OF 'swagelaw5.VerifyMore'. -/
def verifyMoreUptoCard : Claim7 := { stood := { row := verifyMoreUptoRow, standIns := [], harness := (true, "10089f75fa0ab85cfc1497fa887a67bd97855363fd0769559cb79d63b501dd70"), looks := true }, kinds := [], alts := [], laidByText := true, laidKinds := [.data, .data, .data, .handle, .sentinel, .sentinel], laidTests := true, laidLooks := .later }
def VerifyMoreUptoCardSaid : Prop := Claim7.holds Tryz.pinned (.plain (OpenSpec.upto verifyMoreSpec)) verifyMoreUptoCard
end Rows
end Go.Proofs.YtnmhoahkmampkaaGreatDoor
