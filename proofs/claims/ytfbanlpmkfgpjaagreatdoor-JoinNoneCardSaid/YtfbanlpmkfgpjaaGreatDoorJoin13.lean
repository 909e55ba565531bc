/-
  treadlelaw16.JoinNone: the loop that makes the futures; the tail.
-/
import Derived.Test.YtfbanlpmkfgpjaaGreatDoorJoin12
import Derived.Deep.LoopGhost
namespace Go.Proofs.YtfbanlpmkfgpjaaGreatDoor
open Go.RowKit

/-- The pointers to i futures. -/
def rowF (fs : Nat → Nat) (i : Nat) : List Value := (List.range i).map fun j => .pointer (some ⟨fs j + 5, 0, none⟩)

/-- i futures are made, v is the row of them. -/
structure Mk (w0 W : World) (v : Value) (i : Nat) (fs L H P : Nat → Nat) : Prop where
  own : W.ownsRow w0.heap.size 24 1 v i (rowF fs i)
  fut : ∀ j, j < i → Ftr W (fs j) (L j) (H j) (P j) 0 0 .nilIface 0 0 (fun _ => .pointer none)
  apart : ∀ a b, a < i → b < i → a ≠ b → fs a + 6 ≤ fs b ∨ fs b + 6 ≤ fs a
  lo : ∀ j, j < i → w0.heap.size ≤ fs j
  nrow : ∀ g, v.ownBlock = some g → ∀ j, j < i → ¬ FOwn (fs j) g
  kept : Kept (fun _ => False) w0 W
  z : i = 0 → v = .slice none 0 0

theorem own_kept {S : Nat → Prop} {w w' : World} {base n : Nat} {e : TypeId} {size : Nat} {v : Value} {xs : List Value} (h : w.ownsRow base e size v n xs) (k : Kept S w w') (hs : ∀ g, v.ownBlock = some g → ¬ S g) : w'.ownsRow base e size v n xs := by
  refine ⟨h.1, ?_⟩
  rcases h.2 with hn | ⟨g, cap, cur, rfl, hb, hg, rest⟩
  · exact .inl hn
  · exact .inr ⟨g, cap, cur, rfl, hb, (k.block g (Array.getElem?_eq_some_iff.1 hg).1 (hs g rfl)).trans hg, rest⟩

theorem rowF_succ (fs : Nat → Nat) (i x : Nat) : rowF (put fs i x) (i + 1) = rowF fs i ++ [.pointer (some ⟨x + 5, 0, none⟩)] := by
  unfold rowF
  rw [List.range_succ, List.map_append]
  congr 1
  · refine List.map_congr_left fun j hj => ?_
    rw [put_other _ _ _ _ (by have := List.mem_range.1 hj; omega)]
  · simp [put_same]

/-- One more: New, its slice, the append. -/
theorem Mk.step {w0 W W1 W2 W3 : World} {v v' : Value} {i l h p : Nat} {fs L H P : Nat → Nat} (M : Mk w0 W v i fs L H P) (F : Ftr W1 W.heap.size l h p 0 0 .nilIface 0 0 (fun _ => .pointer none)) (s1 : W1.heap.size = W.heap.size + 6) (k1 : Kept (fun _ => False) W W1) (k2 : Kept (fun _ => False) W1 W2)
    (own : W3.ownsRow w0.heap.size 24 1 v' (i + 1) (rowF fs i ++ [.pointer (some ⟨W.heap.size + 5, 0, none⟩)])) (gr : W2.grownBy W3 v.ownBlock) (lies : ∀ g, v'.ownBlock = some g → v.ownBlock = some g ∨ W2.heap.size ≤ g) :
    Mk w0 W3 v' (i + 1) (put fs i W.heap.size) (put L i l) (put H i h) (put P i p) := by
  have kg := kept_grown gr
  have k12 := k1.trans k2
  have fz : ∀ j, j < i → fs j + 6 ≤ W.heap.size := fun j hj => (M.fut j hj).size
  have vb : ∀ g, v.ownBlock = some g → g < W.heap.size ∧ w0.heap.size ≤ g := fun g hg => by
    have := M.own.lt g hg
    exact ⟨this.2, this.1⟩
  refine ⟨by rw [rowF_succ]; exact own, fun j hj => ?_, fun a b ha hb hne => ?_, fun j hj => ?_, fun g hg j hj => ?_, ?_, fun h => by omega⟩
  · by_cases e : j = i
    · subst e
      simp only [put_same]
      exact (F.far k2).kept kg (fun b ⟨h1, h2⟩ hb => by have := vb b hb; omega)
    · simp only [put_other _ _ _ _ e]
      exact ((M.fut j (by omega)).far k12).kept kg (fun b hb hb2 => M.nrow b hb2 j (by omega) hb)
  · by_cases e1 : a = i
    · subst e1
      rw [put_same, put_other _ _ _ _ (Ne.symm hne)]
      exact .inr (fz b (by omega))
    · by_cases e2 : b = i
      · subst e2
        rw [put_same, put_other _ _ _ _ e1]
        exact .inl (fz a (by omega))
      · rw [put_other _ _ _ _ e1, put_other _ _ _ _ e2]
        exact M.apart a b (by omega) (by omega) hne
  · by_cases e : j = i
    · subst e; rw [put_same]; exact M.kept.size
    · rw [put_other _ _ _ _ e]; exact M.lo j (by omega)
  · rcases lies g hg with h1 | h1
    · by_cases e : j = i
      · subst e; rw [put_same]; rintro ⟨h2, h3⟩; have := vb g h1; omega
      · rw [put_other _ _ _ _ e]; exact M.nrow g h1 j (by omega)
    · have := k2.size
      by_cases e : j = i
      · subst e; rw [put_same]; rintro ⟨h2, h3⟩; omega
      · rw [put_other _ _ _ _ e]; rintro ⟨h2, h3⟩; have := fz j (by omega); omega
  · exact ((M.kept.trans k1).trans k2).far (kg.mono (T := fun b => v.ownBlock = some b) fun b _ h => h) (fun b hb => (vb b hb).2)

def MkRel (w0 : World) (m : Nat) (v c : Value) (W : World) : Prop := ∃ i : Nat, i ≤ m ∧ c = .int .i64 i ∧ ∃ fs L H P, Mk w0 W v i fs L H P

end Go.Proofs.YtfbanlpmkfgpjaaGreatDoor
