/-
  DERIVED. GIVEN WITH THE SEED: THE CARDS: each row of YtailldgochoklaaGreatDoorRows.lean that lists a variable, with what it lists TIED to the program's text (the seventh form; the later family's looks); each row that meets fmt, with fmt's text TOLD by the authors' own Lean function (tested against real Go, not proved from fmt's source: count such statements apart). THE CARD IS WHAT COUNTS. Prove the row's statement (the work); the ties are given (YtailldgochoklaaGreatDoorTie.lean); close each card by the builder's one call (the guide's Derived/Test/ToyasCard.lean, 'card_holds'). Laid BY PROGRAM, IN A SANDBOX (cutbox-door.mjs). By AI agents, Wed Nov 11 2026. No macro, syntax, notation, axiom, sorry.
-/
import Derived.Test.YtailldgochoklaaGreatDoorRows
import GoSem.ClaimSeven
namespace Go.Proofs.YtailldgochoklaaGreatDoor
namespace Rows

/-- THE TIED CARD OF 'treadlelaw15.MemoPlaces'. -/
def memoPlacesCard : Claim7 := { stood := { row := memoPlacesRow, standIns := [], harness := (true, "ceb9811504a44bf08493e393ac5bcb3d8369273a54d024386738482be9efedd9"), looks := true }, kinds := [], alts := [], laidByText := true, laidKinds := [.data, .data, .handle], laidTests := true, laidLooks := .later }
def MemoPlacesCardSaid : Prop := Claim7.holds Tryz.pinned (.plain (OpenSpec.ofChange memoPlacesSpec)) memoPlacesCard

/-- THE SECOND FORM's CARD OF 'treadlelaw15.MemoPlaces'. -/
def memoPlacesUptoCard : Claim7 := { stood := { row := memoPlacesUptoRow, standIns := [], harness := (true, "ceb9811504a44bf08493e393ac5bcb3d8369273a54d024386738482be9efedd9"), looks := true }, kinds := [], alts := [], laidByText := true, laidKinds := [.data, .data, .handle], laidTests := true, laidLooks := .later }
def MemoPlacesUptoCardSaid : Prop := Claim7.holds Tryz.pinned (.plain (OpenSpec.upto memoPlacesSpec)) memoPlacesUptoCard
end Rows
end Go.Proofs.YtailldgochoklaaGreatDoor
