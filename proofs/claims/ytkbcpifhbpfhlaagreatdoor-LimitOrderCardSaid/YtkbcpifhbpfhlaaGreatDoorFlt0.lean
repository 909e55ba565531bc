/-
  What a call that answers a bool leaves.
-/
import Derived.Test.YtkbcpifhbpfhlaaGreatDoorFlt1
namespace Go.Proofs.YtkbcpifhbpfhlaaGreatDoor

/-- A call that answers b, and leaves a world of which T is true; but for the blocks of S, and for new ones, it is as it was. -/
def Res (S : Nat → Prop) (w : World) (b : Bool) (T : World → Prop) : Ending → World → Prop := fun e w' => e = .returned (.bool b) ∧ Kept S w w' ∧ T w'

end Go.Proofs.YtkbcpifhbpfhlaaGreatDoor
