/-
  Package clock, a nil thread: what a clock is in memory, and how it is told of another world.
-/
import Derived.Test.YtkbcpifhbpfhlaaGreatDoorKept
import Derived.Test.YtkbcpifhbpfhlaaGreatDoorCel
namespace Go.Proofs.YtkbcpifhbpfhlaaGreatDoor
open Go.RowKit

/-- The clock that New laid down from block n on: its time, whether it is busy, its slots' states, dues and functions. -/
structure Clk (w : World) (n : Nat) (now busy : Int) (s d : Nat → Int) (f : Nat → Value) : Prop where
  size : n + 35 ≤ w.heap.size
  now : Cel w n now
  busy : Cel w (n + 1) busy
  p0 : w.cell? ⟨n + 2, 0, none⟩ = some (.pointer (some ⟨n, 0, none⟩))
  p1 : w.cell? ⟨n + 2, 1, none⟩ = some (.pointer (some ⟨n + 1, 0, none⟩))
  ps : ∀ i, i < 16 → w.cell? ⟨n + 2, 2 + 3 * i, none⟩ = some (.pointer (some ⟨n + 3 + 2 * i, 0, none⟩))
  pd : ∀ i, i < 16 → w.cell? ⟨n + 2, 2 + 3 * i + 1, none⟩ = some (.pointer (some ⟨n + 4 + 2 * i, 0, none⟩))
  pf : ∀ i, i < 16 → w.cell? ⟨n + 2, 2 + 3 * i + 2, none⟩ = some (f i)
  ff : ∀ i, i < 16 → w.frozen? ⟨n + 2, 2 + 3 * i + 2, none⟩ = false
  st : ∀ i, i < 16 → Cel w (n + 3 + 2 * i) (s i)
  du : ∀ i, i < 16 → Cel w (n + 4 + 2 * i) (d i)

/-- The blocks of a clock. -/
def Own (n : Nat) : Nat → Prop := fun k => n ≤ k ∧ k < n + 35

theorem Clk.kept {S : Nat → Prop} {w w' : World} {n : Nat} {now busy : Int} {s d : Nat → Int} {f : Nat → Value} (h : Clk w n now busy s d f) (k : Kept S w w') (hs : ∀ b, Own n b → ¬ S b) : Clk w' n now busy s d f := by
  have sz := h.size
  refine ⟨Nat.le_trans h.size k.size, h.now.kept k (hs _ ⟨by omega, by omega⟩), h.busy.kept k (hs _ ⟨by omega, by omega⟩), ?_, ?_, ?_, ?_, ?_, ?_, ?_, ?_⟩
  · exact (k.cell (p := ⟨n + 2, 0, none⟩) (by show n + 2 < _; omega) (hs _ ⟨by show n ≤ n + 2; omega, by show n + 2 < _; omega⟩)).trans h.p0
  · exact (k.cell (p := ⟨n + 2, 1, none⟩) (by show n + 2 < _; omega) (hs _ ⟨by show n ≤ n + 2; omega, by show n + 2 < _; omega⟩)).trans h.p1
  · intro i hi; exact (k.cell (p := ⟨n + 2, 2 + 3 * i, none⟩) (by show n + 2 < _; omega) (hs _ ⟨by show n ≤ n + 2; omega, by show n + 2 < _; omega⟩)).trans (h.ps i hi)
  · intro i hi; exact (k.cell (p := ⟨n + 2, 2 + 3 * i + 1, none⟩) (by show n + 2 < _; omega) (hs _ ⟨by show n ≤ n + 2; omega, by show n + 2 < _; omega⟩)).trans (h.pd i hi)
  · intro i hi; exact (k.cell (p := ⟨n + 2, 2 + 3 * i + 2, none⟩) (by show n + 2 < _; omega) (hs _ ⟨by show n ≤ n + 2; omega, by show n + 2 < _; omega⟩)).trans (h.pf i hi)
  · intro i hi; exact (k.frozen (p := ⟨n + 2, 2 + 3 * i + 2, none⟩) (by show n + 2 < _; omega) (hs _ ⟨by show n ≤ n + 2; omega, by show n + 2 < _; omega⟩)).trans (h.ff i hi)
  · intro i hi; exact (h.st i hi).kept k (hs _ ⟨by omega, by omega⟩)
  · intro i hi; exact (h.du i hi).kept k (hs _ ⟨by omega, by omega⟩)

theorem Clk.alloc {w : World} {n : Nat} {now busy : Int} {s d : Nat → Int} {f : Nat → Value} (h : Clk w n now busy s d f) (o : Obj) : Clk (w.alloc o) n now busy s d f :=
  h.kept (S := fun _ => False) ((Kept.refl _ w).alloc o) fun _ _ => id

theorem Clk.drew {w : World} {n : Nat} {now busy : Int} {s d : Nat → Int} {f : Nat → Value} (h : Clk w n now busy s d f) : Clk w.drew n now busy s d f :=
  h.kept (S := fun _ => False) (Kept.refl _ w).drew fun _ _ => id

theorem Clk.far {w : World} {n : Nat} {now busy : Int} {s d : Nat → Int} {f : Nat → Value} (h : Clk w n now busy s d f) (p : Addr) (u : Value) (hp : ¬ Own n p.block) : Clk (w.setCell p u) n now busy s d f :=
  h.kept (S := fun k => k = p.block) (Kept.one w p u) fun _ hb e => hp (e ▸ hb)

/-- A cell of the clock's own is set: all the rest stands. -/
theorem Clk.parts {w : World} {n : Nat} {now busy : Int} {s d : Nat → Int} {f : Nat → Value} (h : Clk w n now busy s d f) (b : Nat) (hb : b ≠ n + 2) (o : Nat) (u : Value) {now' busy' : Int} {s' d' : Nat → Int}
    (h1 : Cel (w.setCell ⟨b, o, none⟩ u) n now') (h2 : Cel (w.setCell ⟨b, o, none⟩ u) (n + 1) busy') (h3 : ∀ i, i < 16 → Cel (w.setCell ⟨b, o, none⟩ u) (n + 3 + 2 * i) (s' i)) (h4 : ∀ i, i < 16 → Cel (w.setCell ⟨b, o, none⟩ u) (n + 4 + 2 * i) (d' i)) :
    Clk (w.setCell ⟨b, o, none⟩ u) n now' busy' s' d' f := by
  have sz := h.size
  have k : Kept (fun k => k = b) w (w.setCell ⟨b, o, none⟩ u) := Kept.one w ⟨b, o, none⟩ u
  have hn : ¬ n + 2 = b := fun e => hb e.symm
  refine ⟨Nat.le_trans h.size k.size, h1, h2, ?_, ?_, ?_, ?_, ?_, ?_, h3, h4⟩
  · exact (k.cell (p := ⟨n + 2, 0, none⟩) (by show n + 2 < _; omega) hn).trans h.p0
  · exact (k.cell (p := ⟨n + 2, 1, none⟩) (by show n + 2 < _; omega) hn).trans h.p1
  · intro i hi; exact (k.cell (p := ⟨n + 2, 2 + 3 * i, none⟩) (by show n + 2 < _; omega) hn).trans (h.ps i hi)
  · intro i hi; exact (k.cell (p := ⟨n + 2, 2 + 3 * i + 1, none⟩) (by show n + 2 < _; omega) hn).trans (h.pd i hi)
  · intro i hi; exact (k.cell (p := ⟨n + 2, 2 + 3 * i + 2, none⟩) (by show n + 2 < _; omega) hn).trans (h.pf i hi)
  · intro i hi; exact (k.frozen (p := ⟨n + 2, 2 + 3 * i + 2, none⟩) (by show n + 2 < _; omega) hn).trans (h.ff i hi)

theorem Clk.setNow {w : World} {n : Nat} {now busy : Int} {s d : Nat → Int} {f : Nat → Value} (h : Clk w n now busy s d f) (x : Int) : Clk (w.setCell ⟨n, 0, none⟩ (.int .i64 x)) n x busy s d f :=
  h.parts n (by omega) 0 _ (h.now.set x) (h.busy.far _ _ (by show n + 1 ≠ n; omega)) (fun i hi => (h.st i hi).far _ _ (by show n + 3 + 2 * i ≠ n; omega)) (fun i hi => (h.du i hi).far _ _ (by show n + 4 + 2 * i ≠ n; omega))

theorem Clk.setBusy {w : World} {n : Nat} {now busy : Int} {s d : Nat → Int} {f : Nat → Value} (h : Clk w n now busy s d f) (x : Int) : Clk (w.setCell ⟨n + 1, 0, none⟩ (.int .i64 x)) n now x s d f :=
  h.parts (n + 1) (by omega) 0 _ (h.now.far _ _ (by show n ≠ n + 1; omega)) (h.busy.set x) (fun i hi => (h.st i hi).far _ _ (by show n + 3 + 2 * i ≠ n + 1; omega)) (fun i hi => (h.du i hi).far _ _ (by show n + 4 + 2 * i ≠ n + 1; omega))

theorem Clk.setState {w : World} {n : Nat} {now busy : Int} {s d : Nat → Int} {f : Nat → Value} (h : Clk w n now busy s d f) (j : Nat) (hj : j < 16) (x : Int) : Clk (w.setCell ⟨n + 3 + 2 * j, 0, none⟩ (.int .i64 x)) n now busy (put s j x) d f := by
  refine h.parts (n + 3 + 2 * j) (by omega) 0 _ (h.now.far _ _ (by show n ≠ n + 3 + 2 * j; omega)) (h.busy.far _ _ (by show n + 1 ≠ n + 3 + 2 * j; omega)) (fun i hi => ?_) (fun i hi => (h.du i hi).far _ _ (by show n + 4 + 2 * i ≠ n + 3 + 2 * j; omega))
  by_cases e : i = j
  · subst e; rw [put_same]; exact (h.st i hi).set x
  · rw [put_other _ _ _ _ e]; exact (h.st i hi).far _ _ (by show n + 3 + 2 * i ≠ n + 3 + 2 * j; omega)

theorem Clk.setDue {w : World} {n : Nat} {now busy : Int} {s d : Nat → Int} {f : Nat → Value} (h : Clk w n now busy s d f) (j : Nat) (hj : j < 16) (x : Int) : Clk (w.setCell ⟨n + 4 + 2 * j, 0, none⟩ (.int .i64 x)) n now busy s (put d j x) f := by
  refine h.parts (n + 4 + 2 * j) (by omega) 0 _ (h.now.far _ _ (by show n ≠ n + 4 + 2 * j; omega)) (h.busy.far _ _ (by show n + 1 ≠ n + 4 + 2 * j; omega)) (fun i hi => (h.st i hi).far _ _ (by show n + 3 + 2 * i ≠ n + 4 + 2 * j; omega)) (fun i hi => ?_)
  by_cases e : i = j
  · subst e; rw [put_same]; exact (h.du i hi).set x
  · rw [put_other _ _ _ _ e]; exact (h.du i hi).far _ _ (by show n + 4 + 2 * i ≠ n + 4 + 2 * j; omega)

theorem Clk.setFunc {w : World} {n : Nat} {now busy : Int} {s d : Nat → Int} {f : Nat → Value} (h : Clk w n now busy s d f) (j : Nat) (hj : j < 16) (u : Value) : Clk (w.setCell ⟨n + 2, 2 + 3 * j + 2, none⟩ u) n now busy s d (put f j u) := by
  have sz := h.size
  have p0 := h.p0
  have p1 := h.p1
  have lt : n + 2 < w.heap.size := by omega
  refine ⟨by simpa using sz, h.now.far _ _ (by show n ≠ n + 2; omega), h.busy.far _ _ (by show n + 1 ≠ n + 2; omega), ?_, ?_, fun i hi => ?_, fun i hi => ?_, fun i hi => ?_, fun i hi => ?_, fun i hi => (h.st i hi).far _ _ (by show n + 3 + 2 * i ≠ n + 2; omega), fun i hi => (h.du i hi).far _ _ (by show n + 4 + 2 * i ≠ n + 2; omega)⟩
  · rw [World.cell?_setCell_other _ _ _ _ (by simp; try omega)]; exact p0
  · rw [World.cell?_setCell_other _ _ _ _ (by simp; try omega)]; exact p1
  · rw [World.cell?_setCell_other _ _ _ _ (by simp; try omega)]; exact h.ps i hi
  · rw [World.cell?_setCell_other _ _ _ _ (by simp; try omega)]; exact h.pd i hi
  · by_cases e : i = j
    · subst e; rw [put_same]
      have pf := h.pf i hi
      have ff := h.ff i hi
      go_simp
    · rw [put_other _ _ _ _ e, World.cell?_setCell_other _ _ _ _ (by simp; try omega)]; exact h.pf i hi
  · have ff := h.ff i hi
    go_simp

/-- The world of a clock in which only the clock's own blocks, and new ones, are other. -/
theorem own_set {n : Nat} {w w' : World} (k : Kept (Own n) w w') (b : Nat) (h1 : n ≤ b) (h2 : b < n + 35) (o : Nat) (u : Value) : Kept (Own n) w (w'.setCell ⟨b, o, none⟩ u) :=
  k.setCell _ (.inl ⟨h1, h2⟩) u

theorem kind_any (x : Int) (w : World) : Calls Tryz.prog 77 #[.int .i64 x] w fun e w' => e = .returned (.int .i64 (x.tmod 4)) ∧ w' = w := by
  go_enter Tryz.func77, Tryz.ntmps77
  go_wp2
  go_ret
  exact ⟨rfl, rfl⟩

theorem cnone_nil (w : World) : Calls Tryz.prog 31 #[.pointer none] w fun e w' => e = .returned (.bool true) ∧ w' = w := by
  go_enter Tryz.func31, Tryz.ntmps31
  go_wp2
  go_ret
  exact ⟨rfl, rfl⟩

theorem cnone_bare (b : Nat) (w : World) (h : w.cell? ⟨b, 0, none⟩ = some (.pointer none)) : Calls Tryz.prog 31 #[.pointer (some ⟨b, 0, none⟩)] w fun e w' => e = .returned (.bool true) ∧ w' = w := by
  go_enter Tryz.func31, Tryz.ntmps31
  go_wp2
  go_ret
  exact ⟨rfl, rfl⟩

theorem cnone_made (b : Nat) (a : Addr) (w : World) (h : w.cell? ⟨b, 0, none⟩ = some (.pointer (some a))) : Calls Tryz.prog 31 #[.pointer (some ⟨b, 0, none⟩)] w fun e w' => e = .returned (.bool false) ∧ w' = w := by
  go_enter Tryz.func31, Tryz.ntmps31
  go_wp2
  go_ret
  exact ⟨rfl, rfl⟩

end Go.Proofs.YtkbcpifhbpfhlaaGreatDoor
