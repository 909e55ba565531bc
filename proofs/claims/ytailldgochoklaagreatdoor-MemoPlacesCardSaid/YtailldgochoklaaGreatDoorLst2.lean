/-
  Package list, a nil thread: a place is put on; Add.
-/
import Derived.Test.YtailldgochoklaaGreatDoorLst1
namespace Go.Proofs.YtailldgochoklaaGreatDoor
open Go.RowKit

theorem Live.alloc {w : World} {b l h p : Nat} {n hd : Int} {x0 x1 : Value} (L : Live w b l h p n hd x0 x1) (o : Obj) : Live (w.alloc o) b l h p n hd x0 x1 :=
  L.kept (S := fun _ => False) ((Kept.refl _ w).alloc o) id id id id

theorem Live.drew {w : World} {b l h p : Nat} {n hd : Int} {x0 x1 : Value} (L : Live w b l h p n hd x0 x1) : Live w.drew b l h p n hd x0 x1 :=
  L.kept (S := fun _ => False) (Kept.refl _ w).drew id id id id

/-- A statement of an exit where no panic is let. -/
def Calm (Q : Exit → Act → World → Prop) : Exit → Act → World → Prop
  | .panic _, _, _ => False
  | e, a, w => Q e a w

theorem calm_le {Q : Exit → Act → World → Prop} (e : Exit) (a : Act) (w : World) (h : Calm Q e a w) : Q e a w := by
  cases e <;> first | exact h | exact h.elim

theorem calm_normal {Q : Exit → Act → World → Prop} {a : Act} {w : World} (h : Q .normal a w) : Calm Q .normal a w := h

/-- What putting a place on leaves: a new place, known to the head. -/
def PutPost (w : World) (b l h p g : Nat) (n k hd : Int) (x0 x1 : Value) : Ending → World → Prop := fun e w' =>
  e = .returned (.bool true) ∧ w'.heap.size = w.heap.size + 4 ∧ Live w' b l h p n k x0 x1 ∧ Two w' (w.heap.size + 3) (.pointer (some ⟨g, 0, none⟩)) (.int .i64 hd) ∧ Kept (fun c => c = h ∨ c = p) w w'

/-- What an Add that puts a place on leaves. -/
def AddPost (w : World) (b l h p g : Nat) (k hd : Int) (x0 x1 : Value) : Ending → World → Prop := fun e w' =>
  e = .returned (.tuple #[.int .i64 k, .int .i64 0]) ∧ w'.heap.size = w.heap.size + 4 ∧ Live w' b l h p k k x0 x1 ∧ Two w' (w.heap.size + 3) (.pointer (some ⟨g, 0, none⟩)) (.int .i64 hd) ∧ Kept (fun c => c = l ∨ c = h ∨ c = p) w w'

end Go.Proofs.YtailldgochoklaaGreatDoor
