/-
  Package clock, a nil thread: what a clock is in memory, and how it is told of another world.
-/
import Derived.Test.YtmlemofnakfpgaaCellLone
import Derived.StillTailTactics
import Derived.RegionTactic
import Derived.LoopTactic
import Derived.LoopN
import Derived.Outline
import Derived.Deep.RegionWith
import Derived.Deep.QuietTactic
import Derived.BigQuiet
import Derived.Lib.Hide
import Derived.Laws.NewBlocks
namespace Go.Proofs.Ytmlemofnakfpgaa
open Go.RowKit

/-- But for the blocks of S, and for new ones, the world is as it was. -/
structure Kept (S : Nat → Prop) (w w' : World) : Prop where
  os : w'.os = w.os
  tape : w'.tape = w.tape
  output : w'.output = w.output
  size : w.heap.size ≤ w'.heap.size
  block : ∀ k, k < w.heap.size → ¬ S k → w'.heap[k]? = w.heap[k]?

theorem Kept.refl (S : Nat → Prop) (w : World) : Kept S w w := ⟨rfl, rfl, rfl, Nat.le_refl _, fun _ _ _ => rfl⟩

theorem Kept.trans {S : Nat → Prop} {a b c : World} (h : Kept S a b) (k : Kept S b c) : Kept S a c :=
  ⟨k.os.trans h.os, k.tape.trans h.tape, k.output.trans h.output, Nat.le_trans h.size k.size, fun i hi hs => (k.block i (Nat.lt_of_lt_of_le hi h.size) hs).trans (h.block i hi hs)⟩

theorem Kept.mono {S T : Nat → Prop} {a b : World} (h : Kept S a b) (hST : ∀ k, k < a.heap.size → S k → T k) : Kept T a b :=
  ⟨h.os, h.tape, h.output, h.size, fun k hk hs => h.block k hk fun hS => hs (hST k hk hS)⟩

theorem Kept.alloc {S : Nat → Prop} {a w : World} (h : Kept S a w) (o : Obj) : Kept S a (w.alloc o) :=
  h.trans ⟨rfl, rfl, rfl, by simp, fun k hk _ => Below.heap_alloc w o k hk⟩

theorem Kept.drew {S : Nat → Prop} {a w : World} (h : Kept S a w) : Kept S a w.drew := ⟨h.os, h.tape, h.output, h.size, h.block⟩

theorem Kept.setCell {S : Nat → Prop} {a w : World} (h : Kept S a w) (p : Addr) (hp : S p.block ∨ a.heap.size ≤ p.block) (u : Value) : Kept S a (w.setCell p u) := by
  refine ⟨h.os, h.tape, h.output, by simpa using h.size, fun k hk hs => ?_⟩
  have hne : k ≠ p.block := by
    rintro rfl
    rcases hp with hp | hp
    · exact hs hp
    · omega
  rw [Below.heap_setCell w p u k hne]; exact h.block k hk hs

theorem Kept.one (w : World) (p : Addr) (u : Value) : Kept (fun k => k = p.block) w (w.setCell p u) :=
  Kept.setCell (S := fun k => k = p.block) (Kept.refl _ w) p (.inl rfl) u

theorem Kept.below {S : Nat → Prop} {B : Nat} {w w' : World} (h : Kept S w w') (hB : B ≤ w.heap.size) (hS : ∀ k, S k → B ≤ k) : Below B w w' :=
  ⟨h.os, h.tape, h.output, h.size, fun k hk => h.block k (by omega) fun hs => by have := hS k hs; omega⟩

theorem Kept.ofBelow {B : Nat} {w w' : World} (h : Below B w w') (hB : w.heap.size ≤ B) (S : Nat → Prop) : Kept S w w' :=
  ⟨h.os, h.tape, h.output, h.size, fun k hk _ => h.block k (by omega)⟩

theorem Kept.cell {S : Nat → Prop} {w w' : World} (h : Kept S w w') {p : Addr} (hp : p.block < w.heap.size) (hs : ¬ S p.block) : w'.cell? p = w.cell? p :=
  World.cell?_of_block (w := w) (h.block p.block hp hs)

theorem Kept.frozen {S : Nat → Prop} {w w' : World} (h : Kept S w w') {p : Addr} (hp : p.block < w.heap.size) (hs : ¬ S p.block) : w'.frozen? p = w.frozen? p :=
  World.frozen?_of_block (w := w) (h.block p.block hp hs)

/-- Block b is a cell of package cell that holds v, and that nobody sleeps on. -/
structure Cel (w : World) (b : Nat) (v : Int) : Prop where
  c0 : w.cell? ⟨b, 0, none⟩ = some (.int .i64 v)
  c1 : w.cell? ⟨b, 1, none⟩ = some (.bool true)
  c2 : w.cell? ⟨b, 2, none⟩ = some (.int .i64 0)
  fr : w.frozen? ⟨b, 0, none⟩ = false
  lt : b < w.heap.size

theorem Cel.kept {S : Nat → Prop} {w w' : World} {b : Nat} {v : Int} (h : Cel w b v) (k : Kept S w w') (hs : ¬ S b) : Cel w' b v :=
  ⟨(k.cell (p := ⟨b, 0, none⟩) h.lt hs).trans h.c0, (k.cell (p := ⟨b, 1, none⟩) h.lt hs).trans h.c1, (k.cell (p := ⟨b, 2, none⟩) h.lt hs).trans h.c2, (k.frozen (p := ⟨b, 0, none⟩) h.lt hs).trans h.fr, Nat.lt_of_lt_of_le h.lt k.size⟩

theorem Cel.far {w : World} {b : Nat} {v : Int} (h : Cel w b v) (p : Addr) (u : Value) (hp : b ≠ p.block) : Cel (w.setCell p u) b v :=
  h.kept (S := fun k => k = p.block) (Kept.one w p u) hp

theorem Cel.set {w : World} {b : Nat} {v : Int} (h : Cel w b v) (x : Int) : Cel (w.setCell ⟨b, 0, none⟩ (.int .i64 x)) b x := by
  have c0 := h.c0
  have c1 := h.c1
  have c2 := h.c2
  have fr := h.fr
  have lt := h.lt
  refine ⟨?_, ?_, ?_, ?_, ?_⟩
  all_goals go_simp

/-- The function, but x at i. -/
def put {α : Type} (s : Nat → α) (i : Nat) (x : α) : Nat → α := fun j => if j = i then x else s j

theorem put_same {α : Type} (s : Nat → α) (i : Nat) (x : α) : put s i x i = x := by simp [put]
theorem put_other {α : Type} (s : Nat → α) (i j : Nat) (x : α) (h : j ≠ i) : put s i x j = s j := by simp [put, h]

/-- The clock that New laid down from block n on: its time, whether it is busy, its slots' states, dues and functions. -/
structure Clk (w : World) (n : Nat) (now busy : Int) (s d : Nat → Int) (f : Nat → Value) : Prop where
  size : n + 35 ≤ w.heap.size
  now : Cel w n now
  busy : Cel w (n + 1) busy
  p0 : w.cell? ⟨n + 2, 0, none⟩ = some (.pointer (some ⟨n, 0, none⟩))
  p1 : w.cell? ⟨n + 2, 1, none⟩ = some (.pointer (some ⟨n + 1, 0, none⟩))
  ps : ∀ i, i < 16 → w.cell? ⟨n + 2, 2 + 3 * i, none⟩ = some (.pointer (some ⟨n + 3 + 2 * i, 0, none⟩))
  pd : ∀ i, i < 16 → w.cell? ⟨n + 2, 2 + 3 * i + 1, none⟩ = some (.pointer (some ⟨n + 4 + 2 * i, 0, none⟩))
  pf : ∀ i, i < 16 → w.cell? ⟨n + 2, 2 + 3 * i + 2, none⟩ = some (f i)
  ff : ∀ i, i < 16 → w.frozen? ⟨n + 2, 2 + 3 * i + 2, none⟩ = false
  st : ∀ i, i < 16 → Cel w (n + 3 + 2 * i) (s i)
  du : ∀ i, i < 16 → Cel w (n + 4 + 2 * i) (d i)

/-- The blocks of a clock. -/
def Own (n : Nat) : Nat → Prop := fun k => n ≤ k ∧ k < n + 35

theorem Clk.kept {S : Nat → Prop} {w w' : World} {n : Nat} {now busy : Int} {s d : Nat → Int} {f : Nat → Value} (h : Clk w n now busy s d f) (k : Kept S w w') (hs : ∀ b, Own n b → ¬ S b) : Clk w' n now busy s d f := by
  have sz := h.size
  refine ⟨Nat.le_trans h.size k.size, h.now.kept k (hs _ ⟨by omega, by omega⟩), h.busy.kept k (hs _ ⟨by omega, by omega⟩), ?_, ?_, ?_, ?_, ?_, ?_, ?_, ?_⟩
  · exact (k.cell (p := ⟨n + 2, 0, none⟩) (by show n + 2 < _; omega) (hs _ ⟨by show n ≤ n + 2; omega, by show n + 2 < _; omega⟩)).trans h.p0
  · exact (k.cell (p := ⟨n + 2, 1, none⟩) (by show n + 2 < _; omega) (hs _ ⟨by show n ≤ n + 2; omega, by show n + 2 < _; omega⟩)).trans h.p1
  · intro i hi; exact (k.cell (p := ⟨n + 2, 2 + 3 * i, none⟩) (by show n + 2 < _; omega) (hs _ ⟨by show n ≤ n + 2; omega, by show n + 2 < _; omega⟩)).trans (h.ps i hi)
  · intro i hi; exact (k.cell (p := ⟨n + 2, 2 + 3 * i + 1, none⟩) (by show n + 2 < _; omega) (hs _ ⟨by show n ≤ n + 2; omega, by show n + 2 < _; omega⟩)).trans (h.pd i hi)
  · intro i hi; exact (k.cell (p := ⟨n + 2, 2 + 3 * i + 2, none⟩) (by show n + 2 < _; omega) (hs _ ⟨by show n ≤ n + 2; omega, by show n + 2 < _; omega⟩)).trans (h.pf i hi)
  · intro i hi; exact (k.frozen (p := ⟨n + 2, 2 + 3 * i + 2, none⟩) (by show n + 2 < _; omega) (hs _ ⟨by show n ≤ n + 2; omega, by show n + 2 < _; omega⟩)).trans (h.ff i hi)
  · intro i hi; exact (h.st i hi).kept k (hs _ ⟨by omega, by omega⟩)
  · intro i hi; exact (h.du i hi).kept k (hs _ ⟨by omega, by omega⟩)

theorem Clk.alloc {w : World} {n : Nat} {now busy : Int} {s d : Nat → Int} {f : Nat → Value} (h : Clk w n now busy s d f) (o : Obj) : Clk (w.alloc o) n now busy s d f :=
  h.kept (S := fun _ => False) ((Kept.refl _ w).alloc o) fun _ _ => id

theorem Clk.drew {w : World} {n : Nat} {now busy : Int} {s d : Nat → Int} {f : Nat → Value} (h : Clk w n now busy s d f) : Clk w.drew n now busy s d f :=
  h.kept (S := fun _ => False) (Kept.refl _ w).drew fun _ _ => id

theorem Clk.far {w : World} {n : Nat} {now busy : Int} {s d : Nat → Int} {f : Nat → Value} (h : Clk w n now busy s d f) (p : Addr) (u : Value) (hp : ¬ Own n p.block) : Clk (w.setCell p u) n now busy s d f :=
  h.kept (S := fun k => k = p.block) (Kept.one w p u) fun _ hb e => hp (e ▸ hb)

/-- A cell of the clock's own is set: all the rest stands. -/
theorem Clk.parts {w : World} {n : Nat} {now busy : Int} {s d : Nat → Int} {f : Nat → Value} (h : Clk w n now busy s d f) (b : Nat) (hb : b ≠ n + 2) (o : Nat) (u : Value) {now' busy' : Int} {s' d' : Nat → Int}
    (h1 : Cel (w.setCell ⟨b, o, none⟩ u) n now') (h2 : Cel (w.setCell ⟨b, o, none⟩ u) (n + 1) busy') (h3 : ∀ i, i < 16 → Cel (w.setCell ⟨b, o, none⟩ u) (n + 3 + 2 * i) (s' i)) (h4 : ∀ i, i < 16 → Cel (w.setCell ⟨b, o, none⟩ u) (n + 4 + 2 * i) (d' i)) :
    Clk (w.setCell ⟨b, o, none⟩ u) n now' busy' s' d' f := by
  have sz := h.size
  have k : Kept (fun k => k = b) w (w.setCell ⟨b, o, none⟩ u) := Kept.one w ⟨b, o, none⟩ u
  have hn : ¬ n + 2 = b := fun e => hb e.symm
  refine ⟨Nat.le_trans h.size k.size, h1, h2, ?_, ?_, ?_, ?_, ?_, ?_, h3, h4⟩
  · exact (k.cell (p := ⟨n + 2, 0, none⟩) (by show n + 2 < _; omega) hn).trans h.p0
  · exact (k.cell (p := ⟨n + 2, 1, none⟩) (by show n + 2 < _; omega) hn).trans h.p1
  · intro i hi; exact (k.cell (p := ⟨n + 2, 2 + 3 * i, none⟩) (by show n + 2 < _; omega) hn).trans (h.ps i hi)
  · intro i hi; exact (k.cell (p := ⟨n + 2, 2 + 3 * i + 1, none⟩) (by show n + 2 < _; omega) hn).trans (h.pd i hi)
  · intro i hi; exact (k.cell (p := ⟨n + 2, 2 + 3 * i + 2, none⟩) (by show n + 2 < _; omega) hn).trans (h.pf i hi)
  · intro i hi; exact (k.frozen (p := ⟨n + 2, 2 + 3 * i + 2, none⟩) (by show n + 2 < _; omega) hn).trans (h.ff i hi)

theorem Clk.setNow {w : World} {n : Nat} {now busy : Int} {s d : Nat → Int} {f : Nat → Value} (h : Clk w n now busy s d f) (x : Int) : Clk (w.setCell ⟨n, 0, none⟩ (.int .i64 x)) n x busy s d f :=
  h.parts n (by omega) 0 _ (h.now.set x) (h.busy.far _ _ (by show n + 1 ≠ n; omega)) (fun i hi => (h.st i hi).far _ _ (by show n + 3 + 2 * i ≠ n; omega)) (fun i hi => (h.du i hi).far _ _ (by show n + 4 + 2 * i ≠ n; omega))

theorem Clk.setBusy {w : World} {n : Nat} {now busy : Int} {s d : Nat → Int} {f : Nat → Value} (h : Clk w n now busy s d f) (x : Int) : Clk (w.setCell ⟨n + 1, 0, none⟩ (.int .i64 x)) n now x s d f :=
  h.parts (n + 1) (by omega) 0 _ (h.now.far _ _ (by show n ≠ n + 1; omega)) (h.busy.set x) (fun i hi => (h.st i hi).far _ _ (by show n + 3 + 2 * i ≠ n + 1; omega)) (fun i hi => (h.du i hi).far _ _ (by show n + 4 + 2 * i ≠ n + 1; omega))

theorem Clk.setState {w : World} {n : Nat} {now busy : Int} {s d : Nat → Int} {f : Nat → Value} (h : Clk w n now busy s d f) (j : Nat) (hj : j < 16) (x : Int) : Clk (w.setCell ⟨n + 3 + 2 * j, 0, none⟩ (.int .i64 x)) n now busy (put s j x) d f := by
  refine h.parts (n + 3 + 2 * j) (by omega) 0 _ (h.now.far _ _ (by show n ≠ n + 3 + 2 * j; omega)) (h.busy.far _ _ (by show n + 1 ≠ n + 3 + 2 * j; omega)) (fun i hi => ?_) (fun i hi => (h.du i hi).far _ _ (by show n + 4 + 2 * i ≠ n + 3 + 2 * j; omega))
  by_cases e : i = j
  · subst e; rw [put_same]; exact (h.st i hi).set x
  · rw [put_other _ _ _ _ e]; exact (h.st i hi).far _ _ (by show n + 3 + 2 * i ≠ n + 3 + 2 * j; omega)

theorem Clk.setDue {w : World} {n : Nat} {now busy : Int} {s d : Nat → Int} {f : Nat → Value} (h : Clk w n now busy s d f) (j : Nat) (hj : j < 16) (x : Int) : Clk (w.setCell ⟨n + 4 + 2 * j, 0, none⟩ (.int .i64 x)) n now busy s (put d j x) f := by
  refine h.parts (n + 4 + 2 * j) (by omega) 0 _ (h.now.far _ _ (by show n ≠ n + 4 + 2 * j; omega)) (h.busy.far _ _ (by show n + 1 ≠ n + 4 + 2 * j; omega)) (fun i hi => (h.st i hi).far _ _ (by show n + 3 + 2 * i ≠ n + 4 + 2 * j; omega)) (fun i hi => ?_)
  by_cases e : i = j
  · subst e; rw [put_same]; exact (h.du i hi).set x
  · rw [put_other _ _ _ _ e]; exact (h.du i hi).far _ _ (by show n + 4 + 2 * i ≠ n + 4 + 2 * j; omega)

theorem Clk.setFunc {w : World} {n : Nat} {now busy : Int} {s d : Nat → Int} {f : Nat → Value} (h : Clk w n now busy s d f) (j : Nat) (hj : j < 16) (u : Value) : Clk (w.setCell ⟨n + 2, 2 + 3 * j + 2, none⟩ u) n now busy s d (put f j u) := by
  have sz := h.size
  have p0 := h.p0
  have p1 := h.p1
  have lt : n + 2 < w.heap.size := by omega
  refine ⟨by simpa using sz, h.now.far _ _ (by show n ≠ n + 2; omega), h.busy.far _ _ (by show n + 1 ≠ n + 2; omega), ?_, ?_, fun i hi => ?_, fun i hi => ?_, fun i hi => ?_, fun i hi => ?_, fun i hi => (h.st i hi).far _ _ (by show n + 3 + 2 * i ≠ n + 2; omega), fun i hi => (h.du i hi).far _ _ (by show n + 4 + 2 * i ≠ n + 2; omega)⟩
  · rw [World.cell?_setCell_other _ _ _ _ (by simp; try omega)]; exact p0
  · rw [World.cell?_setCell_other _ _ _ _ (by simp; try omega)]; exact p1
  · rw [World.cell?_setCell_other _ _ _ _ (by simp; try omega)]; exact h.ps i hi
  · rw [World.cell?_setCell_other _ _ _ _ (by simp; try omega)]; exact h.pd i hi
  · by_cases e : i = j
    · subst e; rw [put_same]
      have pf := h.pf i hi
      have ff := h.ff i hi
      go_simp
    · rw [put_other _ _ _ _ e, World.cell?_setCell_other _ _ _ _ (by simp; try omega)]; exact h.pf i hi
  · have ff := h.ff i hi
    go_simp

/-- The world of a clock in which only the clock's own blocks, and new ones, are other. -/
theorem own_set {n : Nat} {w w' : World} (k : Kept (Own n) w w') (b : Nat) (h1 : n ≤ b) (h2 : b < n + 35) (o : Nat) (u : Value) : Kept (Own n) w (w'.setCell ⟨b, o, none⟩ u) :=
  k.setCell _ (.inl ⟨h1, h2⟩) u

theorem kind_any (x : Int) (w : World) : Calls Try.prog 14 #[.int .i64 x] w fun e w' => e = .returned (.int .i64 (x.tmod 4)) ∧ w' = w := by
  go_enter Try.func14, Try.ntmps14
  go_wp2
  go_ret
  exact ⟨rfl, rfl⟩

theorem cnone_nil (w : World) : Calls Try.prog 12 #[.pointer none] w fun e w' => e = .returned (.bool true) ∧ w' = w := by
  go_enter Try.func12, Try.ntmps12
  go_wp2
  go_ret
  exact ⟨rfl, rfl⟩

theorem cnone_bare (b : Nat) (w : World) (h : w.cell? ⟨b, 0, none⟩ = some (.pointer none)) : Calls Try.prog 12 #[.pointer (some ⟨b, 0, none⟩)] w fun e w' => e = .returned (.bool true) ∧ w' = w := by
  go_enter Try.func12, Try.ntmps12
  go_wp2
  go_ret
  exact ⟨rfl, rfl⟩

theorem cnone_made (b : Nat) (a : Addr) (w : World) (h : w.cell? ⟨b, 0, none⟩ = some (.pointer (some a))) : Calls Try.prog 12 #[.pointer (some ⟨b, 0, none⟩)] w fun e w' => e = .returned (.bool false) ∧ w' = w := by
  go_enter Try.func12, Try.ntmps12
  go_wp2
  go_ret
  exact ⟨rfl, rfl⟩

end Go.Proofs.Ytmlemofnakfpgaa
