/-
  DERIVED. GIVEN WITH THE SEED: THE CARDS: each row of YtlkglgpaadfieaaGreatDoorRows.lean that lists a variable, with what it lists TIED to the program's text (the seventh form; the later family's looks); each row that meets fmt, with fmt's text TOLD by the authors' own Lean function (tested against real Go, not proved from fmt's source: count such statements apart). THE CARD IS WHAT COUNTS. Prove the row's statement (the work); the ties are given (YtlkglgpaadfieaaGreatDoorTie.lean); close each card by the builder's one call (the guide's Derived/Test/ToyasCard.lean, 'card_holds'). Laid BY PROGRAM, IN A SANDBOX (cutbox-door.mjs). By AI agents, Wed Nov 11 2026. No macro, syntax, notation, axiom, sorry.
-/
import Derived.Test.YtlkglgpaadfieaaGreatDoorRows
import GoSem.ClaimSeven
namespace Go.Proofs.YtlkglgpaadfieaaGreatDoor
namespace Rows

/-- THE TIED CARD OF 'treadlelaw14.FutureNone'. -/
def futureNoneCard : Claim7 := { stood := { row := futureNoneRow, standIns := [], harness := (true, "c2285b64f13b86d071547f7fb8b7450b5eb542eeb57db92921e084a7e588433a"), looks := true }, kinds := [], alts := [], laidByText := true, laidKinds := [.handle], laidTests := true, laidLooks := .later }
def FutureNoneCardSaid : Prop := Claim7.holds Tryz.pinned (.plain (OpenSpec.ofChange futureNoneSpec)) futureNoneCard

/-- THE SECOND FORM's CARD OF 'treadlelaw14.FutureNone'. -/
def futureNoneUptoCard : Claim7 := { stood := { row := futureNoneUptoRow, standIns := [], harness := (true, "c2285b64f13b86d071547f7fb8b7450b5eb542eeb57db92921e084a7e588433a"), looks := true }, kinds := [], alts := [], laidByText := true, laidKinds := [.handle], laidTests := true, laidLooks := .later }
def FutureNoneUptoCardSaid : Prop := Claim7.holds Tryz.pinned (.plain (OpenSpec.upto futureNoneSpec)) futureNoneUptoCard
end Rows
end Go.Proofs.YtlkglgpaadfieaaGreatDoor
