/-
  A cell of package cell in a world.
-/
import Derived.Test.YthkakojkffgmbaaKept
import Derived.Test.YthkakojkffgmbaaCellLone
namespace Go.Proofs.Ythkakojkffgmbaa
open Go.RowKit

/-- Block b is a cell of package cell that holds v, and that nobody sleeps on. -/
structure Cel (w : World) (b : Nat) (v : Int) : Prop where
  c0 : w.cell? ⟨b, 0, none⟩ = some (.int .i64 v)
  c1 : w.cell? ⟨b, 1, none⟩ = some (.bool true)
  c2 : w.cell? ⟨b, 2, none⟩ = some (.int .i64 0)
  fr : w.frozen? ⟨b, 0, none⟩ = false
  lt : b < w.heap.size

theorem Cel.kept {S : Nat → Prop} {w w' : World} {b : Nat} {v : Int} (h : Cel w b v) (k : Kept S w w') (hs : ¬ S b) : Cel w' b v :=
  ⟨(k.cell (p := ⟨b, 0, none⟩) h.lt hs).trans h.c0, (k.cell (p := ⟨b, 1, none⟩) h.lt hs).trans h.c1, (k.cell (p := ⟨b, 2, none⟩) h.lt hs).trans h.c2, (k.frozen (p := ⟨b, 0, none⟩) h.lt hs).trans h.fr, Nat.lt_of_lt_of_le h.lt k.size⟩

theorem Cel.far {w : World} {b : Nat} {v : Int} (h : Cel w b v) (p : Addr) (u : Value) (hp : b ≠ p.block) : Cel (w.setCell p u) b v :=
  h.kept (S := fun k => k = p.block) (Kept.one w p u) hp

theorem Cel.set {w : World} {b : Nat} {v : Int} (h : Cel w b v) (x : Int) : Cel (w.setCell ⟨b, 0, none⟩ (.int .i64 x)) b x := by
  have c0 := h.c0
  have c1 := h.c1
  have c2 := h.c2
  have fr := h.fr
  have lt := h.lt
  refine ⟨?_, ?_, ?_, ?_, ?_⟩
  all_goals go_simp

end Go.Proofs.Ythkakojkffgmbaa
