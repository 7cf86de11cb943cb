/-
  DERIVED. GIVEN WITH THE SEED: THE CARDS: each row of YtgpfmgaidbjcpaaGreatDoorRows.lean that lists a variable, with what it lists TIED to the program's text (the seventh form; the later family's looks); each row that meets fmt, with fmt's text TOLD by the authors' own Lean function (tested against real Go, not proved from fmt's source: count such statements apart). THE CARD IS WHAT COUNTS. Prove the row's statement (the work); the ties are given (YtgpfmgaidbjcpaaGreatDoorTie.lean); close each card by the builder's one call (the guide's Derived/Test/ToyasCard.lean, 'card_holds'). Laid BY PROGRAM, IN A SANDBOX (cutbox-door.mjs). By AI agents, Wed Nov 11 2026. No macro, syntax, notation, axiom, sorry.
-/
import Derived.Test.YtgpfmgaidbjcpaaGreatDoorRows
import GoSem.ClaimSeven
namespace Go.Proofs.YtgpfmgaidbjcpaaGreatDoor
namespace Rows

/-- THE TIED CARD OF 'laws.FnHonest'. -/
def fnHonestCard : Claim7 := { stood := { row := fnHonestRow, standIns := [], harness := (true, "ae1a26b5fe0bf076fbd5d46b6aa5b5048445192e1cda9740fb573d4ee2a2b2ff"), looks := true }, kinds := [], alts := [], laidByText := true, laidKinds := [.sentinel, .sentinel, .sentinel, .sentinel, .sentinel, .sentinel], laidTests := true, laidLooks := .later }
def FnHonestCardSaid : Prop := Claim7.holds Tryz.pinned (.plain (OpenSpec.ofChange fnHonestSpec)) fnHonestCard

/-- THE SECOND FORM's CARD OF 'laws.FnHonest'. -/
def fnHonestUptoCard : Claim7 := { stood := { row := fnHonestUptoRow, standIns := [], harness := (true, "ae1a26b5fe0bf076fbd5d46b6aa5b5048445192e1cda9740fb573d4ee2a2b2ff"), looks := true }, kinds := [], alts := [], laidByText := true, laidKinds := [.sentinel, .sentinel, .sentinel, .sentinel, .sentinel, .sentinel], laidTests := true, laidLooks := .later }
def FnHonestUptoCardSaid : Prop := Claim7.holds Tryz.pinned (.plain (OpenSpec.upto fnHonestSpec)) fnHonestUptoCard
end Rows
end Go.Proofs.YtgpfmgaidbjcpaaGreatDoor
