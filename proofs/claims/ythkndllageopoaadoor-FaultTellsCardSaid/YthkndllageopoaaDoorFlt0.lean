/-
  What a call that answers a bool leaves.
-/
import Derived.Test.YthkndllageopoaaDoorFlt1
namespace Go.Proofs.YthkndllageopoaaDoor

/-- A call that answers b, and leaves a world of which T is true; but for the blocks of S, and for new ones, it is as it was. -/
def Res (S : Nat → Prop) (w : World) (b : Bool) (T : World → Prop) : Ending → World → Prop := fun e w' => e = .returned (.bool b) ∧ Kept S w w' ∧ T w'

end Go.Proofs.YthkndllageopoaaDoor
