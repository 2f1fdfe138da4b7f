/-
  DERIVED. GIVEN WITH THE SEED: THE CARDS: each row of YtjefpgdecanheaaGreatDoorRows.lean that lists a variable, with what it lists TIED to the program's text (the seventh form; the later family's looks); each row that meets fmt, with fmt's text TOLD by the authors' own Lean function (tested against real Go, not proved from fmt's source: count such statements apart). THE CARD IS WHAT COUNTS. Prove the row's statement (the work); the ties are given (YtjefpgdecanheaaGreatDoorTie.lean); close each card by the builder's one call (the guide's Derived/Test/ToyasCard.lean, 'card_holds'). Laid BY PROGRAM, IN A SANDBOX (cutbox-door.mjs). By AI agents, Wed Nov 11 2026. No macro, syntax, notation, axiom, sorry.
-/
import Derived.Test.YtjefpgdecanheaaGreatDoorRows
import GoSem.ClaimSeven
namespace Go.Proofs.YtjefpgdecanheaaGreatDoor
namespace Rows

/-- THE TIED CARD OF 'encloselaw.Makes'. -/
def makesCard : Claim7 := { stood := { row := makesRow, standIns := [], harness := (true, "197b252f384a2c2d721a81cf035b1424ecf977978c1e2be2b1354874138d275e"), looks := true }, kinds := [], alts := [], laidByText := true, laidKinds := [.handle, .sentinel, .sentinel, .sentinel, .sentinel, .sentinel, .sentinel, .sentinel, .sentinel, .sentinel], laidTests := true, laidLooks := .later }
def MakesCardSaid : Prop := Claim7.holds Tryz.pinned (.plain (OpenSpec.ofChange makesSpec)) makesCard

/-- THE TIED CARD OF 'encloselaw.Ops'. -/
def opsCard : Claim7 := { stood := { row := opsRow, standIns := [], harness := (true, "197b252f384a2c2d721a81cf035b1424ecf977978c1e2be2b1354874138d275e"), looks := true }, kinds := [], alts := [], laidByText := true, laidKinds := [.handle, .sentinel, .sentinel, .sentinel, .sentinel, .sentinel, .sentinel, .sentinel, .sentinel, .sentinel], laidTests := true, laidLooks := .later }
def OpsCardSaid : Prop := Claim7.holds Tryz.pinned (.plain (OpenSpec.ofChange opsSpec)) opsCard

/-- THE TIED CARD OF 'encloselaw.Applies'. -/
def appliesCard : Claim7 := { stood := { row := appliesRow, standIns := [], harness := (true, "197b252f384a2c2d721a81cf035b1424ecf977978c1e2be2b1354874138d275e"), looks := true }, kinds := [], alts := [], laidByText := true, laidKinds := [.handle, .sentinel, .sentinel, .sentinel, .sentinel, .sentinel, .sentinel, .sentinel, .sentinel, .sentinel], laidTests := true, laidLooks := .later }
def AppliesCardSaid : Prop := Claim7.holds Tryz.pinned (.plain (OpenSpec.ofChange appliesSpec)) appliesCard

/-- THE TIED CARD OF 'encloselaw.Exacts'. -/
def exactsCard : Claim7 := { stood := { row := exactsRow, standIns := [], harness := (true, "197b252f384a2c2d721a81cf035b1424ecf977978c1e2be2b1354874138d275e"), looks := true }, kinds := [], alts := [], laidByText := true, laidKinds := [.handle, .sentinel, .sentinel, .sentinel, .sentinel, .sentinel, .sentinel, .sentinel, .sentinel, .sentinel], laidTests := true, laidLooks := .later }
def ExactsCardSaid : Prop := Claim7.holds Tryz.pinned (.plain (OpenSpec.ofChange exactsSpec)) exactsCard

/-- THE TIED CARD OF 'encloselaw.Knows'. -/
def knowsCard : Claim7 := { stood := { row := knowsRow, standIns := [], harness := (true, "197b252f384a2c2d721a81cf035b1424ecf977978c1e2be2b1354874138d275e"), looks := true }, kinds := [], alts := [], laidByText := true, laidKinds := [.handle, .sentinel, .sentinel, .sentinel, .sentinel, .sentinel, .sentinel, .sentinel, .sentinel, .sentinel], laidTests := true, laidLooks := .later }
def KnowsCardSaid : Prop := Claim7.holds Tryz.pinned (.plain (OpenSpec.ofChange knowsSpec)) knowsCard

/-- THE SECOND FORM's CARD OF 'encloselaw.Makes'. -/
def makesUptoCard : Claim7 := { stood := { row := makesUptoRow, standIns := [], harness := (true, "197b252f384a2c2d721a81cf035b1424ecf977978c1e2be2b1354874138d275e"), looks := true }, kinds := [], alts := [], laidByText := true, laidKinds := [.handle, .sentinel, .sentinel, .sentinel, .sentinel, .sentinel, .sentinel, .sentinel, .sentinel, .sentinel], laidTests := true, laidLooks := .later }
def MakesUptoCardSaid : Prop := Claim7.holds Tryz.pinned (.plain (OpenSpec.upto makesSpec)) makesUptoCard

/-- THE SECOND FORM's CARD OF 'encloselaw.Ops'. -/
def opsUptoCard : Claim7 := { stood := { row := opsUptoRow, standIns := [], harness := (true, "197b252f384a2c2d721a81cf035b1424ecf977978c1e2be2b1354874138d275e"), looks := true }, kinds := [], alts := [], laidByText := true, laidKinds := [.handle, .sentinel, .sentinel, .sentinel, .sentinel, .sentinel, .sentinel, .sentinel, .sentinel, .sentinel], laidTests := true, laidLooks := .later }
def OpsUptoCardSaid : Prop := Claim7.holds Tryz.pinned (.plain (OpenSpec.upto opsSpec)) opsUptoCard

/-- THE SECOND FORM's CARD OF 'encloselaw.Applies'. -/
def appliesUptoCard : Claim7 := { stood := { row := appliesUptoRow, standIns := [], harness := (true, "197b252f384a2c2d721a81cf035b1424ecf977978c1e2be2b1354874138d275e"), looks := true }, kinds := [], alts := [], laidByText := true, laidKinds := [.handle, .sentinel, .sentinel, .sentinel, .sentinel, .sentinel, .sentinel, .sentinel, .sentinel, .sentinel], laidTests := true, laidLooks := .later }
def AppliesUptoCardSaid : Prop := Claim7.holds Tryz.pinned (.plain (OpenSpec.upto appliesSpec)) appliesUptoCard

/-- THE SECOND FORM's CARD OF 'encloselaw.Exacts'. -/
def exactsUptoCard : Claim7 := { stood := { row := exactsUptoRow, standIns := [], harness := (true, "197b252f384a2c2d721a81cf035b1424ecf977978c1e2be2b1354874138d275e"), looks := true }, kinds := [], alts := [], laidByText := true, laidKinds := [.handle, .sentinel, .sentinel, .sentinel, .sentinel, .sentinel, .sentinel, .sentinel, .sentinel, .sentinel], laidTests := true, laidLooks := .later }
def ExactsUptoCardSaid : Prop := Claim7.holds Tryz.pinned (.plain (OpenSpec.upto exactsSpec)) exactsUptoCard

/-- THE SECOND FORM's CARD OF 'encloselaw.Knows'. -/
def knowsUptoCard : Claim7 := { stood := { row := knowsUptoRow, standIns := [], harness := (true, "197b252f384a2c2d721a81cf035b1424ecf977978c1e2be2b1354874138d275e"), looks := true }, kinds := [], alts := [], laidByText := true, laidKinds := [.handle, .sentinel, .sentinel, .sentinel, .sentinel, .sentinel, .sentinel, .sentinel, .sentinel, .sentinel], laidTests := true, laidLooks := .later }
def KnowsUptoCardSaid : Prop := Claim7.holds Tryz.pinned (.plain (OpenSpec.upto knowsSpec)) knowsUptoCard
end Rows
end Go.Proofs.YtjefpgdecanheaaGreatDoor
