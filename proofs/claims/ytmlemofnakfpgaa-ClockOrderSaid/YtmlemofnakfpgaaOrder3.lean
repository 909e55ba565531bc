/-
  ClockOrder: what stands in memory at each of its places.
-/
import Derived.Test.YtmlemofnakfpgaaOrder2
namespace Go.Proofs.Ytmlemofnakfpgaa
open Go.RowKit

/-- When a timer is due. -/
def dueOf (x : Int) : Int := if x.tmod 1000 < 0 then -x.tmod 1000 else x.tmod 1000

theorem tmod_range (x : Int) (k : Int) (hk : 0 < k) : -k < x.tmod k ∧ x.tmod k < k := ⟨Int.lt_tmod_of_pos x hk, Int.tmod_lt_of_pos x hk⟩

theorem due_range (x : Int) : 0 ≤ dueOf x ∧ dueOf x < 1000 := by
  have := tmod_range x 1000 (by decide)
  unfold dueOf; split <;> omega

/-- The row of the timers: slot and state of each. -/
def rowT : Nat → List Value
  | 0 => []
  | i + 1 => rowT i ++ [.int .i64 i, .int .i64 2]

theorem rowT_length : ∀ i, (rowT i).length = i * 2
  | 0 => rfl
  | i + 1 => by simp [rowT, rowT_length i]; omega

theorem rowT_at : ∀ (i k : Nat), k < i → (rowT i)[k * 2]? = some (.int .i64 k) ∧ (rowT i)[k * 2 + 1]? = some (.int .i64 2)
  | 0, k, h => by omega
  | i + 1, k, h => by
    have hl := rowT_length i
    by_cases e : k = i
    · subst e
      constructor
      · rw [rowT, List.getElem?_append_right (by omega), hl, Nat.sub_self]; rfl
      · rw [rowT, List.getElem?_append_right (by omega), hl, show k * 2 + 1 - k * 2 = 1 by omega]; rfl
    · obtain ⟨h1, h2⟩ := rowT_at i k (by omega)
      constructor
      · rw [rowT, List.getElem?_append_left (by omega)]; exact h1
      · rw [rowT, List.getElem?_append_left (by omega)]; exact h2

/-- A cell that may be written. -/
structure Slot (w : World) (p s : Nat) (v : Value) : Prop where
  c : w.cell? ⟨p, s, none⟩ = some v
  fr : w.frozen? ⟨p, s, none⟩ = false
  lt : p < w.heap.size

theorem Slot.kept {S : Nat → Prop} {w w' : World} {p s : Nat} {v : Value} (h : Slot w p s v) (k : Kept S w w') (hs : ¬ S p) : Slot w' p s v :=
  ⟨(k.cell (p := ⟨p, s, none⟩) h.lt hs).trans h.c, (k.frozen (p := ⟨p, s, none⟩) h.lt hs).trans h.fr, Nat.lt_of_lt_of_le h.lt k.size⟩

theorem Slot.set {w : World} {p s : Nat} {v : Value} (h : Slot w p s v) (x : Value) : Slot (w.setCell ⟨p, s, none⟩ x) p s x := by
  have c := h.c
  have fr := h.fr
  have lt := h.lt
  refine ⟨?_, ?_, ?_⟩
  all_goals go_simp

theorem Slot.beside {w : World} {p s t : Nat} {v : Value} (h : Slot w p s v) (u : Value) (hp : s ≠ t) : Slot (w.setCell ⟨p, t, none⟩ u) p s v := by
  have c := h.c
  have fr := h.fr
  have lt := h.lt
  refine ⟨?_, ?_, ?_⟩
  · rw [World.cell?_setCell_other _ _ _ _ (by simp; try omega)]; exact c
  all_goals go_simp

/-- All that stands beside the clock: the variable rB, the row oB of who is over, the timers' row tB, the functions' variables vb. -/
structure Rest (w0 w : World) (n rB oB tB m : Nat) (vb : Nat → Nat) (ovr : Nat → Bool) : Prop where
  rn : n + 35 ≤ rB ∧ n + 35 ≤ oB ∧ n + 35 ≤ tB ∧ rB ≠ oB ∧ rB ≠ tB ∧ oB ≠ tB
  rb : ∃ v, Slot w rB 0 v
  over : ∀ k, k < m → Slot w oB k (.bool (ovr k))
  tim : ∀ k, k < m → Slot w tB (k * 2) (.int .i64 k) ∧ Slot w tB (k * 2 + 1) (.int .i64 2)
  vars : ∀ k, k < m → w.cell? ⟨vb k, 0, none⟩ = some (.int .i64 k) ∧ vb k < w.heap.size ∧ n + 35 ≤ vb k ∧ vb k ≠ rB ∧ vb k ≠ oB
  kept : Kept (fun _ => False) w0 w
  n0 : w0.heap.size = n

/-- The clock of the law. -/
def Cl (w : World) (n rB m : Nat) (vb : Nat → Nat) (now : Int) (d : Nat → Int) (ov : Nat → Bool) : Prop :=
  ∃ f, Clk w n now 0 (sts m ov) d f ∧ ∀ k, k < m → ov k = false → f k = teller rB (vb k)

theorem Rest.carry {S : Nat → Prop} {w0 w w' : World} {n rB oB tB m : Nat} {vb : Nat → Nat} {ovr : Nat → Bool} (X : Rest w0 w n rB oB tB m vb ovr) (k : Kept S w w') (hs : ∀ b, S b → n ≤ b ∧ b < n + 35) : Rest w0 w' n rB oB tB m vb ovr := by
  obtain ⟨r1, r2, r3, r4, r5, r6⟩ := X.rn
  obtain ⟨v, hv⟩ := X.rb
  have h0 := X.n0
  refine ⟨X.rn, ⟨v, hv.kept k fun h => by have := hs _ h; omega⟩, fun i hi => (X.over i hi).kept k fun h => by have := hs _ h; omega, fun i hi => ⟨(X.tim i hi).1.kept k fun h => by have := hs _ h; omega, (X.tim i hi).2.kept k fun h => by have := hs _ h; omega⟩, fun i hi => ?_, ?_, h0⟩
  · obtain ⟨a, b, c, d⟩ := X.vars i hi
    exact ⟨(k.cell (p := ⟨vb i, 0, none⟩) b fun h => by have := hs (vb i) h; omega).trans a, Nat.lt_of_lt_of_le b k.size, c, d⟩
  · exact Kept.ofBelow (Kept.below (B := w0.heap.size) (X.kept.mono (T := fun c => w0.heap.size ≤ c) (fun _ _ f => f.elim) |>.trans (k.mono fun c _ e => by have := hs c e; omega)) (Nat.le_refl _) fun _ h => h) (Nat.le_refl _) _

theorem Rest.alloc {w0 w : World} {n rB oB tB m : Nat} {vb : Nat → Nat} {ovr : Nat → Bool} (X : Rest w0 w n rB oB tB m vb ovr) (o : Obj) : Rest w0 (w.alloc o) n rB oB tB m vb ovr :=
  X.carry (S := fun _ => False) ((Kept.refl _ _).alloc _) fun _ f => f.elim

theorem Rest.drew {w0 w : World} {n rB oB tB m : Nat} {vb : Nat → Nat} {ovr : Nat → Bool} (X : Rest w0 w n rB oB tB m vb ovr) : Rest w0 w.drew n rB oB tB m vb ovr :=
  X.carry (S := fun _ => False) (Kept.refl _ _).drew fun _ f => f.elim

theorem Cl.carry {S : Nat → Prop} {w w' : World} {n rB m : Nat} {vb : Nat → Nat} {now : Int} {d : Nat → Int} {ov : Nat → Bool} (X : Cl w n rB m vb now d ov) (k : Kept S w w') (hs : ∀ b, S b → n + 35 ≤ b) : Cl w' n rB m vb now d ov := by
  obtain ⟨f, C, h⟩ := X
  exact ⟨f, C.kept k fun b hb h => by have := hs b h; have := hb.2; omega, h⟩

/-- Somebody is over: the row says so. -/
theorem Rest.tell {w0 w : World} {n rB oB tB m : Nat} {vb : Nat → Nat} {ovr : Nat → Bool} (X : Rest w0 w n rB oB tB m vb ovr) (i : Nat) (hi : i < m) : Rest w0 (w.setCell ⟨oB, i, none⟩ (.bool true)) n rB oB tB m vb (put ovr i true) := by
  obtain ⟨r1, r2, r3, r4, r5, r6⟩ := X.rn
  obtain ⟨v, hv⟩ := X.rb
  have h0 := X.n0
  have k : Kept (fun b => b = oB) w (w.setCell ⟨oB, i, none⟩ (.bool true)) := Kept.one w ⟨oB, i, none⟩ _
  refine ⟨X.rn, ⟨v, hv.kept k r4⟩, fun j hj => ?_, fun j hj => ⟨(X.tim j hj).1.kept k fun h => r6 h.symm, (X.tim j hj).2.kept k fun h => r6 h.symm⟩, fun j hj => ?_, ?_, h0⟩
  · by_cases e : j = i
    · subst e; rw [put_same]; exact (X.over j hj).set _
    · rw [put_other _ _ _ _ e]; exact (X.over j hj).beside _ e
  · obtain ⟨a, b, c, d, e⟩ := X.vars j hj
    exact ⟨(k.cell (p := ⟨vb j, 0, none⟩) b e).trans a, Nat.lt_of_lt_of_le b k.size, c, d, e⟩
  · exact Kept.ofBelow (Kept.below (B := w0.heap.size) (X.kept.mono (T := fun c => w0.heap.size ≤ c) (fun _ _ f => f.elim) |>.trans (k.mono fun c _ e => by omega)) (Nat.le_refl _) fun _ h => h) (Nat.le_refl _) _

theorem Rest.congr {w0 w : World} {n rB oB tB m : Nat} {vb : Nat → Nat} {ovr ovr' : Nat → Bool} (X : Rest w0 w n rB oB tB m vb ovr) (h : ∀ k, k < m → ovr k = ovr' k) : Rest w0 w n rB oB tB m vb ovr' :=
  ⟨X.rn, X.rb, fun k hk => by rw [← h k hk]; exact X.over k hk, X.tim, X.vars, X.kept, X.n0⟩

/-- The variable rB is written. -/
theorem Rest.clear {w0 w : World} {n rB oB tB m : Nat} {vb : Nat → Nat} {ovr : Nat → Bool} (X : Rest w0 w n rB oB tB m vb ovr) (u : Value) : Rest w0 (w.setCell ⟨rB, 0, none⟩ u) n rB oB tB m vb ovr ∧ Slot (w.setCell ⟨rB, 0, none⟩ u) rB 0 u := by
  obtain ⟨r1, r2, r3, r4, r5, r6⟩ := X.rn
  obtain ⟨v, hv⟩ := X.rb
  have h0 := X.n0
  have k : Kept (fun b => b = rB) w (w.setCell ⟨rB, 0, none⟩ u) := Kept.one w ⟨rB, 0, none⟩ _
  refine ⟨⟨X.rn, ⟨u, hv.set u⟩, fun j hj => (X.over j hj).kept k fun h => r4 h.symm, fun j hj => ⟨(X.tim j hj).1.kept k fun h => r5 h.symm, (X.tim j hj).2.kept k fun h => r5 h.symm⟩, fun j hj => ?_, ?_, h0⟩, hv.set u⟩
  · obtain ⟨a, b, c, d, e⟩ := X.vars j hj
    exact ⟨(k.cell (p := ⟨vb j, 0, none⟩) b d).trans a, Nat.lt_of_lt_of_le b k.size, c, d, e⟩
  · exact Kept.ofBelow (Kept.below (B := w0.heap.size) (X.kept.mono (T := fun c => w0.heap.size ≤ c) (fun _ _ f => f.elim) |>.trans (k.mono fun c _ e => by omega)) (Nat.le_refl _) fun _ h => h) (Nat.le_refl _) _

/-- Behind an Advance. -/
theorem Rest.rung {w0 w w' : World} {n rB oB tB m : Nat} {vb : Nat → Nat} {ovr : Nat → Bool} {B r : Nat} {v : Value} {xs : List Value} (X : Rest w0 w n rB oB tB m vb ovr) (k : Kept (fun b => Own n b ∨ b = rB) w w') (H : Holds w' B rB r v xs) : Rest w0 w' n rB oB tB m vb ovr := by
  obtain ⟨r1, r2, r3, r4, r5, r6⟩ := X.rn
  have h0 := X.n0
  have hs : ∀ b, n + 35 ≤ b → b ≠ rB → ¬ (Own n b ∨ b = rB) := fun b h1 h2 h => h.elim (fun h => by have := h.2; omega) h2
  refine ⟨X.rn, ⟨v, ⟨H.c, H.f, H.lt⟩⟩, fun j hj => (X.over j hj).kept k (hs _ r2 fun h => r4 h.symm), fun j hj => ⟨(X.tim j hj).1.kept k (hs _ r3 fun h => r5 h.symm), (X.tim j hj).2.kept k (hs _ r3 fun h => r5 h.symm)⟩, fun j hj => ?_, ?_, h0⟩
  · obtain ⟨a, b, c, d, e⟩ := X.vars j hj
    exact ⟨(k.cell (p := ⟨vb j, 0, none⟩) b (hs _ c d)).trans a, Nat.lt_of_lt_of_le b k.size, c, d, e⟩
  · exact Kept.ofBelow (Kept.below (B := w0.heap.size) (X.kept.mono (T := fun c => w0.heap.size ≤ c) (fun _ _ f => f.elim) |>.trans (k.mono fun c _ e => e.elim (fun h => by have := h.1; omega) fun h => by omega)) (Nat.le_refl _) fun _ h => h) (Nat.le_refl _) _

end Go.Proofs.Ytmlemofnakfpgaa
