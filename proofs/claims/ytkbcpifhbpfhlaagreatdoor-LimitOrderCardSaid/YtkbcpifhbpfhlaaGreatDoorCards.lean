/-
  DERIVED. GIVEN WITH THE SEED: THE CARDS: each row of YtkbcpifhbpfhlaaGreatDoorRows.lean that lists a variable, with what it lists TIED to the program's text (the seventh form; the later family's looks); each row that meets fmt, with fmt's text TOLD by the authors' own Lean function (tested against real Go, not proved from fmt's source: count such statements apart). THE CARD IS WHAT COUNTS. Prove the row's statement (the work); the ties are given (YtkbcpifhbpfhlaaGreatDoorTie.lean); close each card by the builder's one call (the guide's Derived/Test/ToyasCard.lean, 'card_holds'). Laid BY PROGRAM, IN A SANDBOX (cutbox-door.mjs). By AI agents, Wed Nov 11 2026. No macro, syntax, notation, axiom, sorry.
-/
import Derived.Test.YtkbcpifhbpfhlaaGreatDoorRows
import GoSem.ClaimSeven
namespace Go.Proofs.YtkbcpifhbpfhlaaGreatDoor
namespace Rows

/-- THE TIED CARD OF 'treadlelaw17.LimitNone'. -/
def limitNoneCard : Claim7 := { stood := { row := limitNoneRow, standIns := [], harness := (true, "0261ada21cbd4bb618d399e99d3c0412d3067d67ff51ca993f8a24c21da28597"), looks := true }, kinds := [], alts := [], laidByText := true, laidKinds := [.handle], laidTests := true, laidLooks := .later }
def LimitNoneCardSaid : Prop := Claim7.holds Tryz.pinned (.plain (OpenSpec.ofChange limitNoneSpec)) limitNoneCard

/-- THE TIED CARD OF 'treadlelaw17.LimitOrder'. -/
def limitOrderCard : Claim7 := { stood := { row := limitOrderRow, standIns := [], harness := (true, "0261ada21cbd4bb618d399e99d3c0412d3067d67ff51ca993f8a24c21da28597"), looks := true }, kinds := [], alts := [], laidByText := true, laidKinds := [.handle], laidTests := true, laidLooks := .later }
def LimitOrderCardSaid : Prop := Claim7.holds Tryz.pinned (.plain (OpenSpec.ofChange limitOrderSpec)) limitOrderCard

/-- THE SECOND FORM's CARD OF 'treadlelaw17.LimitNone'. -/
def limitNoneUptoCard : Claim7 := { stood := { row := limitNoneUptoRow, standIns := [], harness := (true, "0261ada21cbd4bb618d399e99d3c0412d3067d67ff51ca993f8a24c21da28597"), looks := true }, kinds := [], alts := [], laidByText := true, laidKinds := [.handle], laidTests := true, laidLooks := .later }
def LimitNoneUptoCardSaid : Prop := Claim7.holds Tryz.pinned (.plain (OpenSpec.upto limitNoneSpec)) limitNoneUptoCard

/-- THE SECOND FORM's CARD OF 'treadlelaw17.LimitOrder'. -/
def limitOrderUptoCard : Claim7 := { stood := { row := limitOrderUptoRow, standIns := [], harness := (true, "0261ada21cbd4bb618d399e99d3c0412d3067d67ff51ca993f8a24c21da28597"), looks := true }, kinds := [], alts := [], laidByText := true, laidKinds := [.handle], laidTests := true, laidLooks := .later }
def LimitOrderUptoCardSaid : Prop := Claim7.holds Tryz.pinned (.plain (OpenSpec.upto limitOrderSpec)) limitOrderUptoCard
end Rows
end Go.Proofs.YtkbcpifhbpfhlaaGreatDoor
