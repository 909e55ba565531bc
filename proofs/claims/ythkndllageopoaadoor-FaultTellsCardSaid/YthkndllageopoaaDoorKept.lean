/-
  Worlds that are the same but for some blocks; slots in one of them.
-/
import Derived.Test.YthkndllageopoaaDoorProg
import Derived.WalkKit
import Derived.WalkSpells
import Derived.WalkLawsBesides
import Derived.Laws.LoneSync
import Derived.Defers
import Derived.StillTailTactics
import Derived.RegionTactic
import Derived.LoopTactic
import Derived.LoopN
import Derived.Outline
import Derived.Deep.RegionWith
import Derived.Deep.OwnRows
import Derived.OwnWalk
import Derived.Deep.QuietTactic
import Derived.BigQuiet
import Derived.Lib.Hide
import Derived.Laws.NewBlocks
namespace Go.Proofs.YthkndllageopoaaDoor
open Go.RowKit

/-- But for the blocks of S, and for new ones, the world is as it was. -/
structure Kept (S : Nat → Prop) (w w' : World) : Prop where
  os : w'.os = w.os
  tape : w'.tape = w.tape
  output : w'.output = w.output
  size : w.heap.size ≤ w'.heap.size
  block : ∀ k, k < w.heap.size → ¬ S k → w'.heap[k]? = w.heap[k]?

theorem Kept.refl (S : Nat → Prop) (w : World) : Kept S w w := ⟨rfl, rfl, rfl, Nat.le_refl _, fun _ _ _ => rfl⟩

theorem Kept.trans {S : Nat → Prop} {a b c : World} (h : Kept S a b) (k : Kept S b c) : Kept S a c :=
  ⟨k.os.trans h.os, k.tape.trans h.tape, k.output.trans h.output, Nat.le_trans h.size k.size, fun i hi hs => (k.block i (Nat.lt_of_lt_of_le hi h.size) hs).trans (h.block i hi hs)⟩

theorem Kept.mono {S T : Nat → Prop} {a b : World} (h : Kept S a b) (hST : ∀ k, k < a.heap.size → S k → T k) : Kept T a b :=
  ⟨h.os, h.tape, h.output, h.size, fun k hk hs => h.block k hk fun hS => hs (hST k hk hS)⟩

theorem Kept.far {S U : Nat → Prop} {a b c : World} (h : Kept S a b) (k : Kept U b c) (hU : ∀ i, U i → a.heap.size ≤ i) : Kept S a c :=
  ⟨k.os.trans h.os, k.tape.trans h.tape, k.output.trans h.output, Nat.le_trans h.size k.size, fun i hi hs => (k.block i (Nat.lt_of_lt_of_le hi h.size) fun hu => by have := hU i hu; omega).trans (h.block i hi hs)⟩

theorem Kept.alloc {S : Nat → Prop} {a w : World} (h : Kept S a w) (o : Obj) : Kept S a (w.alloc o) :=
  h.trans ⟨rfl, rfl, rfl, by simp, fun k hk _ => Below.heap_alloc w o k hk⟩

theorem Kept.drew {S : Nat → Prop} {a w : World} (h : Kept S a w) : Kept S a w.drew := ⟨h.os, h.tape, h.output, h.size, h.block⟩

theorem Kept.setCell {S : Nat → Prop} {a w : World} (h : Kept S a w) (p : Addr) (hp : S p.block ∨ a.heap.size ≤ p.block) (u : Value) : Kept S a (w.setCell p u) := by
  refine ⟨h.os, h.tape, h.output, by simpa using h.size, fun k hk hs => ?_⟩
  have hne : k ≠ p.block := by
    rintro rfl
    rcases hp with hp | hp
    · exact hs hp
    · omega
  rw [Below.heap_setCell w p u k hne]; exact h.block k hk hs

theorem Kept.one (w : World) (p : Addr) (u : Value) : Kept (fun k => k = p.block) w (w.setCell p u) :=
  Kept.setCell (S := fun k => k = p.block) (Kept.refl _ w) p (.inl rfl) u

theorem Kept.below {S : Nat → Prop} {B : Nat} {w w' : World} (h : Kept S w w') (hB : B ≤ w.heap.size) (hS : ∀ k, S k → B ≤ k) : Below B w w' :=
  ⟨h.os, h.tape, h.output, h.size, fun k hk => h.block k (by omega) fun hs => by have := hS k hs; omega⟩

theorem Kept.ofBelow {B : Nat} {w w' : World} (h : Below B w w') (hB : w.heap.size ≤ B) (S : Nat → Prop) : Kept S w w' :=
  ⟨h.os, h.tape, h.output, h.size, fun k hk _ => h.block k (by omega)⟩

theorem Kept.cell {S : Nat → Prop} {w w' : World} (h : Kept S w w') {p : Addr} (hp : p.block < w.heap.size) (hs : ¬ S p.block) : w'.cell? p = w.cell? p :=
  World.cell?_of_block (w := w) (h.block p.block hp hs)

theorem Kept.frozen {S : Nat → Prop} {w w' : World} (h : Kept S w w') {p : Addr} (hp : p.block < w.heap.size) (hs : ¬ S p.block) : w'.frozen? p = w.frozen? p :=
  World.frozen?_of_block (w := w) (h.block p.block hp hs)

/-- The function, but x at i. -/
def put {α : Type} (s : Nat → α) (i : Nat) (x : α) : Nat → α := fun j => if j = i then x else s j

theorem put_same {α : Type} (s : Nat → α) (i : Nat) (x : α) : put s i x i = x := by simp [put]
theorem put_other {α : Type} (s : Nat → α) (i j : Nat) (x : α) (h : j ≠ i) : put s i x j = s j := by simp [put, h]

/-- A slot of a row that may be written. -/
structure Slot (w : World) (p s : Nat) (v : Value) : Prop where
  c : w.cell? ⟨p, s, none⟩ = some v
  fr : w.frozen? ⟨p, s, none⟩ = false
  lt : p < w.heap.size

theorem Slot.kept {S : Nat → Prop} {w w' : World} {p s : Nat} {v : Value} (h : Slot w p s v) (k : Kept S w w') (hs : ¬ S p) : Slot w' p s v :=
  ⟨(k.cell (p := ⟨p, s, none⟩) h.lt hs).trans h.c, (k.frozen (p := ⟨p, s, none⟩) h.lt hs).trans h.fr, Nat.lt_of_lt_of_le h.lt k.size⟩

theorem Slot.set {w : World} {p s : Nat} {v : Value} (h : Slot w p s v) (x : Value) : Slot (w.setCell ⟨p, s, none⟩ x) p s x := by
  have c := h.c
  have fr := h.fr
  have lt := h.lt
  refine ⟨?_, ?_, ?_⟩
  all_goals go_simp

theorem Slot.far {w : World} {p s : Nat} {v : Value} (h : Slot w p s v) (a : Addr) (u : Value) (hp : p ≠ a.block) : Slot (w.setCell a u) p s v :=
  h.kept (S := fun k => k = a.block) (Kept.one w a u) hp

theorem Slot.beside {w : World} {p s t : Nat} {v : Value} (h : Slot w p s v) (u : Value) (hp : s ≠ t) : Slot (w.setCell ⟨p, t, none⟩ u) p s v := by
  have c := h.c
  have fr := h.fr
  have lt := h.lt
  refine ⟨?_, ?_, ?_⟩
  · rw [World.cell?_setCell_other _ _ _ _ (by simp; try omega)]; exact c
  all_goals go_simp

/-- A struct of two fields that may be written. -/
structure Two (w : World) (b : Nat) (u v : Value) : Prop where
  c0 : w.cell? ⟨b, 0, none⟩ = some u
  c1 : w.cell? ⟨b, 1, none⟩ = some v
  f0 : w.frozen? ⟨b, 0, none⟩ = false
  f1 : w.frozen? ⟨b, 1, none⟩ = false
  lt : b < w.heap.size

theorem Two.kept {S : Nat → Prop} {w w' : World} {b : Nat} {u v : Value} (h : Two w b u v) (k : Kept S w w') (hs : ¬ S b) : Two w' b u v :=
  ⟨(k.cell (p := ⟨b, 0, none⟩) h.lt hs).trans h.c0, (k.cell (p := ⟨b, 1, none⟩) h.lt hs).trans h.c1, (k.frozen (p := ⟨b, 0, none⟩) h.lt hs).trans h.f0, (k.frozen (p := ⟨b, 1, none⟩) h.lt hs).trans h.f1, Nat.lt_of_lt_of_le h.lt k.size⟩

theorem block_last (w : World) (o : Obj) (k : Nat) (h : k = w.heap.size) : (w.alloc o).heap[k]? = some o := by
  subst h; show (w.heap.push o)[_]? = _; simp

theorem block_old (w : World) (o : Obj) (k : Nat) (h : k < w.heap.size) {x : Option Obj} (hx : w.heap[k]? = x) : (w.alloc o).heap[k]? = x := by
  rw [← hx]; show (w.heap.push o)[k]? = _; rw [Array.getElem?_push, if_neg (by omega)]

theorem block_drew_of {w : World} {k : Nat} {x : Option Obj} (h : w.heap[k]? = x) : w.drew.heap[k]? = x := h

end Go.Proofs.YthkndllageopoaaDoor
