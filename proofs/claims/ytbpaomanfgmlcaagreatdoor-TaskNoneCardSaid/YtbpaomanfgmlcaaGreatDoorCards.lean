/-
  DERIVED. GIVEN WITH THE SEED: THE CARDS: each row of YtbpaomanfgmlcaaGreatDoorRows.lean that lists a variable, with what it lists TIED to the program's text (the seventh form; the later family's looks); each row that meets fmt, with fmt's text TOLD by the authors' own Lean function (tested against real Go, not proved from fmt's source: count such statements apart). THE CARD IS WHAT COUNTS. Prove the row's statement (the work); the ties are given (YtbpaomanfgmlcaaGreatDoorTie.lean); close each card by the builder's one call (the guide's Derived/Test/ToyasCard.lean, 'card_holds'). Laid BY PROGRAM, IN A SANDBOX (cutbox-door.mjs). By AI agents, Wed Nov 11 2026. No macro, syntax, notation, axiom, sorry.
-/
import Derived.Test.YtbpaomanfgmlcaaGreatDoorRows
import GoSem.ClaimSeven
namespace Go.Proofs.YtbpaomanfgmlcaaGreatDoor
namespace Rows

/-- THE TIED CARD OF 'treadlelaw13.TaskNone'. -/
def taskNoneCard : Claim7 := { stood := { row := taskNoneRow, standIns := [], harness := (true, "74e89e95a38665ffa63e499af71bd8742f68c8c59d6f3d845f8d492e6affeae8"), looks := true }, kinds := [], alts := [], laidByText := true, laidKinds := [.handle], laidTests := true, laidLooks := .later }
def TaskNoneCardSaid : Prop := Claim7.holds Tryz.pinned (.plain (OpenSpec.ofChange taskNoneSpec)) taskNoneCard

/-- THE SECOND FORM's CARD OF 'treadlelaw13.TaskNone'. -/
def taskNoneUptoCard : Claim7 := { stood := { row := taskNoneUptoRow, standIns := [], harness := (true, "74e89e95a38665ffa63e499af71bd8742f68c8c59d6f3d845f8d492e6affeae8"), looks := true }, kinds := [], alts := [], laidByText := true, laidKinds := [.handle], laidTests := true, laidLooks := .later }
def TaskNoneUptoCardSaid : Prop := Claim7.holds Tryz.pinned (.plain (OpenSpec.upto taskNoneSpec)) taskNoneUptoCard
end Rows
end Go.Proofs.YtbpaomanfgmlcaaGreatDoor
