/-
  DERIVED. GIVEN WITH THE SEED: THE CARDS: each row of YtbnelaoeblhndaaGreatDoorRows.lean that lists a variable, with what it lists TIED to the program's text (the seventh form; the later family's looks); each row that meets fmt, with fmt's text TOLD by the authors' own Lean function (tested against real Go, not proved from fmt's source: count such statements apart). THE CARD IS WHAT COUNTS. Prove the row's statement (the work); the ties are given (YtbnelaoeblhndaaGreatDoorTie.lean); close each card by the builder's one call (the guide's Derived/Test/ToyasCard.lean, 'card_holds'). Laid BY PROGRAM, IN A SANDBOX (cutbox-door.mjs). By AI agents, Wed Nov 11 2026. No macro, syntax, notation, axiom, sorry.
-/
import Derived.Test.YtbnelaoeblhndaaGreatDoorRows
import GoSem.ClaimSeven
namespace Go.Proofs.YtbnelaoeblhndaaGreatDoor
namespace Rows

/-- THE TIED CARD OF 'rummagelaw.Plains'. -/
def plainsCard : Claim7 := { stood := { row := plainsRow, standIns := [], harness := (true, "e255e716349d8d53450866745bdc03c52bdf9f436160d8f3dffaf7b5792f62dc"), looks := true }, kinds := [], alts := [], laidByText := true, laidKinds := [.data, .data, .data, .sentinel, .sentinel, .data], laidTests := true, laidLooks := .later }
def PlainsCardSaid : Prop := Claim7.holds Tryz.pinned (.plain (OpenSpec.ofChange plainsSpec)) plainsCard

/-- THE TIED CARD OF 'rummagelaw.Things'. -/
def thingsCard : Claim7 := { stood := { row := thingsRow, standIns := [], harness := (true, "e255e716349d8d53450866745bdc03c52bdf9f436160d8f3dffaf7b5792f62dc"), looks := true }, kinds := [], alts := [], laidByText := true, laidKinds := [.data, .data, .data, .sentinel, .sentinel, .data], laidTests := true, laidLooks := .later }
def ThingsCardSaid : Prop := Claim7.holds Tryz.pinned (.plain (OpenSpec.ofChange thingsSpec)) thingsCard

/-- THE TIED CARD OF 'rummagelaw.All'. -/
def allCard : Claim7 := { stood := { row := allRow, standIns := [], harness := (true, "e255e716349d8d53450866745bdc03c52bdf9f436160d8f3dffaf7b5792f62dc"), looks := true }, kinds := [], alts := [], laidByText := true, laidKinds := [.data, .data, .data, .sentinel, .sentinel, .data], laidTests := true, laidLooks := .later }
def AllCardSaid : Prop := Claim7.holds Tryz.pinned (.plain (OpenSpec.ofChange allSpec)) allCard

/-- THE TIED CARD OF 'rummagekeep.Plainly'. -/
def plainlyCard : Claim7 := { stood := { row := plainlyRow, standIns := [], harness := (true, "e255e716349d8d53450866745bdc03c52bdf9f436160d8f3dffaf7b5792f62dc"), looks := true }, kinds := [], alts := [], laidByText := true, laidKinds := [.data, .data, .data, .sentinel, .sentinel, .data], laidTests := true, laidLooks := .later }
def PlainlyCardSaid : Prop := Claim7.holds Tryz.pinned (.plain (OpenSpec.ofChange plainlySpec)) plainlyCard

/-- THE TIED CARD OF 'rummagekeep.Known'. -/
def knownCard : Claim7 := { stood := { row := knownRow, standIns := [], harness := (true, "e255e716349d8d53450866745bdc03c52bdf9f436160d8f3dffaf7b5792f62dc"), looks := true }, kinds := [], alts := [], laidByText := true, laidKinds := [.data, .data, .data, .sentinel, .sentinel, .data], laidTests := true, laidLooks := .later }
def KnownCardSaid : Prop := Claim7.holds Tryz.pinned (.plain (OpenSpec.ofChange knownSpec)) knownCard

/-- THE TIED CARD OF 'rummagekeep.Logic'. -/
def logicCard : Claim7 := { stood := { row := logicRow, standIns := [], harness := (true, "e255e716349d8d53450866745bdc03c52bdf9f436160d8f3dffaf7b5792f62dc"), looks := true }, kinds := [], alts := [], laidByText := true, laidKinds := [.data, .data, .data, .sentinel, .sentinel, .data], laidTests := true, laidLooks := .later }
def LogicCardSaid : Prop := Claim7.holds Tryz.pinned (.plain (OpenSpec.ofChange logicSpec)) logicCard

/-- THE TIED CARD OF 'rummagekeep.Alike'. -/
def alikeCard : Claim7 := { stood := { row := alikeRow, standIns := [], harness := (true, "e255e716349d8d53450866745bdc03c52bdf9f436160d8f3dffaf7b5792f62dc"), looks := true }, kinds := [], alts := [], laidByText := true, laidKinds := [.data, .data, .data, .sentinel, .sentinel, .data], laidTests := true, laidLooks := .later }
def AlikeCardSaid : Prop := Claim7.holds Tryz.pinned (.plain (OpenSpec.ofChange alikeSpec)) alikeCard

/-- THE TIED CARD OF 'rummagekeep.Anyway'. -/
def anywayCard : Claim7 := { stood := { row := anywayRow, standIns := [], harness := (true, "e255e716349d8d53450866745bdc03c52bdf9f436160d8f3dffaf7b5792f62dc"), looks := true }, kinds := [], alts := [], laidByText := true, laidKinds := [.data, .data, .data, .sentinel, .sentinel, .data], laidTests := true, laidLooks := .later }
def AnywayCardSaid : Prop := Claim7.holds Tryz.pinned (.plain (OpenSpec.ofChange anywaySpec)) anywayCard

/-- THE TIED CARD OF 'rummagekeep.Near'. -/
def nearCard : Claim7 := { stood := { row := nearRow, standIns := [], harness := (true, "e255e716349d8d53450866745bdc03c52bdf9f436160d8f3dffaf7b5792f62dc"), looks := true }, kinds := [], alts := [], laidByText := true, laidKinds := [.data, .data, .data, .sentinel, .sentinel, .data], laidTests := true, laidLooks := .later }
def NearCardSaid : Prop := Claim7.holds Tryz.pinned (.plain (OpenSpec.ofChange nearSpec)) nearCard

/-- THE SECOND FORM's CARD OF 'rummagelaw.Plains'. -/
def plainsUptoCard : Claim7 := { stood := { row := plainsUptoRow, standIns := [], harness := (true, "e255e716349d8d53450866745bdc03c52bdf9f436160d8f3dffaf7b5792f62dc"), looks := true }, kinds := [], alts := [], laidByText := true, laidKinds := [.data, .data, .data, .sentinel, .sentinel, .data], laidTests := true, laidLooks := .later }
def PlainsUptoCardSaid : Prop := Claim7.holds Tryz.pinned (.plain (OpenSpec.upto plainsSpec)) plainsUptoCard

/-- THE SECOND FORM's CARD OF 'rummagelaw.Things'. -/
def thingsUptoCard : Claim7 := { stood := { row := thingsUptoRow, standIns := [], harness := (true, "e255e716349d8d53450866745bdc03c52bdf9f436160d8f3dffaf7b5792f62dc"), looks := true }, kinds := [], alts := [], laidByText := true, laidKinds := [.data, .data, .data, .sentinel, .sentinel, .data], laidTests := true, laidLooks := .later }
def ThingsUptoCardSaid : Prop := Claim7.holds Tryz.pinned (.plain (OpenSpec.upto thingsSpec)) thingsUptoCard

/-- THE SECOND FORM's CARD OF 'rummagelaw.All'. -/
def allUptoCard : Claim7 := { stood := { row := allUptoRow, standIns := [], harness := (true, "e255e716349d8d53450866745bdc03c52bdf9f436160d8f3dffaf7b5792f62dc"), looks := true }, kinds := [], alts := [], laidByText := true, laidKinds := [.data, .data, .data, .sentinel, .sentinel, .data], laidTests := true, laidLooks := .later }
def AllUptoCardSaid : Prop := Claim7.holds Tryz.pinned (.plain (OpenSpec.upto allSpec)) allUptoCard

/-- THE SECOND FORM's CARD OF 'rummagekeep.Plainly'. -/
def plainlyUptoCard : Claim7 := { stood := { row := plainlyUptoRow, standIns := [], harness := (true, "e255e716349d8d53450866745bdc03c52bdf9f436160d8f3dffaf7b5792f62dc"), looks := true }, kinds := [], alts := [], laidByText := true, laidKinds := [.data, .data, .data, .sentinel, .sentinel, .data], laidTests := true, laidLooks := .later }
def PlainlyUptoCardSaid : Prop := Claim7.holds Tryz.pinned (.plain (OpenSpec.upto plainlySpec)) plainlyUptoCard

/-- THE SECOND FORM's CARD OF 'rummagekeep.Known'. -/
def knownUptoCard : Claim7 := { stood := { row := knownUptoRow, standIns := [], harness := (true, "e255e716349d8d53450866745bdc03c52bdf9f436160d8f3dffaf7b5792f62dc"), looks := true }, kinds := [], alts := [], laidByText := true, laidKinds := [.data, .data, .data, .sentinel, .sentinel, .data], laidTests := true, laidLooks := .later }
def KnownUptoCardSaid : Prop := Claim7.holds Tryz.pinned (.plain (OpenSpec.upto knownSpec)) knownUptoCard

/-- THE SECOND FORM's CARD OF 'rummagekeep.Logic'. -/
def logicUptoCard : Claim7 := { stood := { row := logicUptoRow, standIns := [], harness := (true, "e255e716349d8d53450866745bdc03c52bdf9f436160d8f3dffaf7b5792f62dc"), looks := true }, kinds := [], alts := [], laidByText := true, laidKinds := [.data, .data, .data, .sentinel, .sentinel, .data], laidTests := true, laidLooks := .later }
def LogicUptoCardSaid : Prop := Claim7.holds Tryz.pinned (.plain (OpenSpec.upto logicSpec)) logicUptoCard

/-- THE SECOND FORM's CARD OF 'rummagekeep.Alike'. -/
def alikeUptoCard : Claim7 := { stood := { row := alikeUptoRow, standIns := [], harness := (true, "e255e716349d8d53450866745bdc03c52bdf9f436160d8f3dffaf7b5792f62dc"), looks := true }, kinds := [], alts := [], laidByText := true, laidKinds := [.data, .data, .data, .sentinel, .sentinel, .data], laidTests := true, laidLooks := .later }
def AlikeUptoCardSaid : Prop := Claim7.holds Tryz.pinned (.plain (OpenSpec.upto alikeSpec)) alikeUptoCard

/-- THE SECOND FORM's CARD OF 'rummagekeep.Anyway'. -/
def anywayUptoCard : Claim7 := { stood := { row := anywayUptoRow, standIns := [], harness := (true, "e255e716349d8d53450866745bdc03c52bdf9f436160d8f3dffaf7b5792f62dc"), looks := true }, kinds := [], alts := [], laidByText := true, laidKinds := [.data, .data, .data, .sentinel, .sentinel, .data], laidTests := true, laidLooks := .later }
def AnywayUptoCardSaid : Prop := Claim7.holds Tryz.pinned (.plain (OpenSpec.upto anywaySpec)) anywayUptoCard

/-- THE SECOND FORM's CARD OF 'rummagekeep.Near'. -/
def nearUptoCard : Claim7 := { stood := { row := nearUptoRow, standIns := [], harness := (true, "e255e716349d8d53450866745bdc03c52bdf9f436160d8f3dffaf7b5792f62dc"), looks := true }, kinds := [], alts := [], laidByText := true, laidKinds := [.data, .data, .data, .sentinel, .sentinel, .data], laidTests := true, laidLooks := .later }
def NearUptoCardSaid : Prop := Claim7.holds Tryz.pinned (.plain (OpenSpec.upto nearSpec)) nearUptoCard
end Rows
end Go.Proofs.YtbnelaoeblhndaaGreatDoor
