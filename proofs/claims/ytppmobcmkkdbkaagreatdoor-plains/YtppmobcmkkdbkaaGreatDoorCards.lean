/-
  DERIVED. GIVEN WITH THE SEED: THE CARDS: each row of YtppmobcmkkdbkaaGreatDoorRows.lean that lists a variable, with what it lists TIED to the program's text (the seventh form; the later family's looks); each row that meets fmt, with fmt's text TOLD by the authors' own Lean function (tested against real Go, not proved from fmt's source: count such statements apart). THE CARD IS WHAT COUNTS. Prove the row's statement (the work); the ties are given (YtppmobcmkkdbkaaGreatDoorTie.lean); close each card by the builder's one call (the guide's Derived/Test/ToyasCard.lean, 'card_holds'). Laid BY PROGRAM, IN A SANDBOX (cutbox-door.mjs). By AI agents, Wed Nov 11 2026. No macro, syntax, notation, axiom, sorry.
-/
import Derived.Test.YtppmobcmkkdbkaaGreatDoorRows
import GoSem.ClaimSeven
namespace Go.Proofs.YtppmobcmkkdbkaaGreatDoor
namespace Rows

/-- THE TIED CARD OF 'rummagelaw.Plains'. -/
def plainsCard : Claim7 := { stood := { row := plainsRow, standIns := [], harness := (true, "c8e3886a43c6340d5c2e205c61f913a0cc5d495a03c2be958fc6c6ffc84ff4eb"), looks := true }, kinds := [], alts := [], laidByText := true, laidKinds := [.data, .data, .data, .sentinel, .sentinel, .data], laidTests := true, laidLooks := .later }
def PlainsCardSaid : Prop := Claim7.holds Tryz.pinned (.plain (OpenSpec.ofChange plainsSpec)) plainsCard

/-- THE TIED CARD OF 'rummagelaw.Things'. -/
def thingsCard : Claim7 := { stood := { row := thingsRow, standIns := [], harness := (true, "c8e3886a43c6340d5c2e205c61f913a0cc5d495a03c2be958fc6c6ffc84ff4eb"), looks := true }, kinds := [], alts := [], laidByText := true, laidKinds := [.data, .data, .data, .sentinel, .sentinel, .data], laidTests := true, laidLooks := .later }
def ThingsCardSaid : Prop := Claim7.holds Tryz.pinned (.plain (OpenSpec.ofChange thingsSpec)) thingsCard

/-- THE TIED CARD OF 'rummagekeep.Plainly'. -/
def plainlyCard : Claim7 := { stood := { row := plainlyRow, standIns := [], harness := (true, "c8e3886a43c6340d5c2e205c61f913a0cc5d495a03c2be958fc6c6ffc84ff4eb"), looks := true }, kinds := [], alts := [], laidByText := true, laidKinds := [.data, .data, .data, .sentinel, .sentinel, .data], laidTests := true, laidLooks := .later }
def PlainlyCardSaid : Prop := Claim7.holds Tryz.pinned (.plain (OpenSpec.ofChange plainlySpec)) plainlyCard

/-- THE SECOND FORM's CARD OF 'rummagelaw.Plains'. -/
def plainsUptoCard : Claim7 := { stood := { row := plainsUptoRow, standIns := [], harness := (true, "c8e3886a43c6340d5c2e205c61f913a0cc5d495a03c2be958fc6c6ffc84ff4eb"), looks := true }, kinds := [], alts := [], laidByText := true, laidKinds := [.data, .data, .data, .sentinel, .sentinel, .data], laidTests := true, laidLooks := .later }
def PlainsUptoCardSaid : Prop := Claim7.holds Tryz.pinned (.plain (OpenSpec.upto plainsSpec)) plainsUptoCard

/-- THE SECOND FORM's CARD OF 'rummagelaw.Things'. -/
def thingsUptoCard : Claim7 := { stood := { row := thingsUptoRow, standIns := [], harness := (true, "c8e3886a43c6340d5c2e205c61f913a0cc5d495a03c2be958fc6c6ffc84ff4eb"), looks := true }, kinds := [], alts := [], laidByText := true, laidKinds := [.data, .data, .data, .sentinel, .sentinel, .data], laidTests := true, laidLooks := .later }
def ThingsUptoCardSaid : Prop := Claim7.holds Tryz.pinned (.plain (OpenSpec.upto thingsSpec)) thingsUptoCard

/-- THE SECOND FORM's CARD OF 'rummagekeep.Plainly'. -/
def plainlyUptoCard : Claim7 := { stood := { row := plainlyUptoRow, standIns := [], harness := (true, "c8e3886a43c6340d5c2e205c61f913a0cc5d495a03c2be958fc6c6ffc84ff4eb"), looks := true }, kinds := [], alts := [], laidByText := true, laidKinds := [.data, .data, .data, .sentinel, .sentinel, .data], laidTests := true, laidLooks := .later }
def PlainlyUptoCardSaid : Prop := Claim7.holds Tryz.pinned (.plain (OpenSpec.upto plainlySpec)) plainlyUptoCard
end Rows
end Go.Proofs.YtppmobcmkkdbkaaGreatDoor
