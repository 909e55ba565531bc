/-
  FaultTells: descriptions of errors; brought.
-/
import Derived.Test.YthkndllageopoaaDoorKept
namespace Go.Proofs.YthkndllageopoaaDoor
open Go.RowKit

theorem tmod_range (x : Int) (k : Int) (hk : 0 < k) : -k < x.tmod k ∧ x.tmod k < k := ⟨Int.lt_tmod_of_pos x hk, Int.tmod_lt_of_pos x hk⟩

/-- A list of ints as it is handed in. -/
def Ints (w : World) (ao : Option Addr) (sb so la : Nat) (At : Nat → Int) : Prop :=
  ∀ i, i < la → ao = some ⟨sb, so, none⟩ ∧ w.cell? ⟨sb, so + i, none⟩ = some (.int .i64 (At i))

theorem Ints.kept {w w' : World} {ao : Option Addr} {sb so la : Nat} {At : Nat → Int} (G : Ints w ao sb so la At) (k : Kept (fun _ => False) w w') : Ints w' ao sb so la At :=
  fun i hi => ⟨(G i hi).1, (k.cell (p := ⟨sb, so + i, none⟩) (World.block_lt_of_cell? w _ (G i hi).2) id).trans (G i hi).2⟩

/-- What a description is that was brought: its kind, its number, its list. -/
structure Desc (ao : Option Addr) (la lca : Nat) (k x : Int) (bo : Option Addr) (m c : Nat) : Prop where
  lo : 0 ≤ k
  hi : k < 8
  x0 : k = 0 → x = 0
  x5 : k = 5 → x = 0
  none : k = 0 → bo = none ∧ m = 0 ∧ c = 0
  some : ¬ k = 0 → bo = ao ∧ m ≤ la ∧ c = lca
  most : m ≤ 1000
  cap : m ≤ c

def Brought (w : World) (ao : Option Addr) (la lca : Nat) (N : Int) : Ending → World → Prop := fun e w' =>
  ∃ k x bo m c, e = .returned (.agg #[.int .i64 k, .int .i64 x, .slice bo m c]) ∧ Desc ao la lca k x bo m c ∧ (x = N ∨ x = 0) ∧ Kept (fun _ => False) w w'

set_option maxRecDepth 100000 in
set_option maxHeartbeats 800000 in
theorem brought_any (K N : Int) (ao : Option Addr) (la lca sb so : Nat) (At : Nat → Int) (w : World) (hl : la ≤ lca) (G : Ints w ao sb so la At) :
    Calls Tryd.prog 4 #[.agg #[.int .i64 K, .int .i64 N, .slice ao la lca]] w (Brought w ao la lca N) := by
  obtain ⟨h1, h2⟩ := tmod_range K 8 (by decide)
  obtain ⟨k, hk⟩ : ∃ k : Int, (K.tmod 8 + 8).tmod 8 = k := ⟨_, rfl⟩
  have hk0 : 0 ≤ k ∧ k < 8 := by
    have := tmod_range (K.tmod 8 + 8) 8 (by decide)
    have h3 : 0 ≤ (K.tmod 8 + 8).tmod 8 := Int.tmod_nonneg _ (by omega)
    omega
  obtain ⟨k1, k2⟩ := hk0
  have HG := Lib.hid G
  clear G
  go_enter Tryd.func4, Tryd.ntmps4
  by_cases hla : 1000 < la
  · obtain rfl := (HG.out 0 (by omega)).1
    have hc : 1000 ≤ lca := by omega
    by_cases e0 : k = 0
    · subst e0
      go_wp2_with fail
      refine bodyPost_ret (v := .agg #[.int .i64 0, .int .i64 0, .slice none 0 0]) (by simp [results, Tryd.results4, go_sem]) rfl ⟨0, 0, none, 0, 0, rfl, ⟨by omega, by omega, fun _ => rfl, fun _ => rfl, fun _ => ⟨rfl, rfl, rfl⟩, fun h => absurd rfl h, by omega, by omega⟩, .inr rfl, ?_⟩
      repeat (first | exact Kept.refl _ _ | refine Kept.setCell ?_ _ (.inr (by simp)) _ | refine Kept.alloc ?_ _)
    · by_cases e5 : k = 5
      · subst e5
        go_wp2_with fail
        refine bodyPost_ret (v := .agg #[.int .i64 5, .int .i64 0, .slice (some ⟨sb, so, none⟩) 1000 lca]) (by simp [results, Tryd.results4, go_sem]) rfl ⟨5, 0, (some ⟨sb, so, none⟩), 1000, lca, rfl, ⟨by omega, by omega, fun _ => rfl, fun _ => rfl, fun h => absurd h e0, fun _ => ⟨rfl, by omega, rfl⟩, by omega, by omega⟩, .inr rfl, ?_⟩
        repeat (first | exact Kept.refl _ _ | refine Kept.setCell ?_ _ (.inr (by simp)) _ | refine Kept.alloc ?_ _)
      · have b0 : (k == 0) = false := by simpa using e0
        have b5 : (k == 5) = false := by simpa using e5
        go_wp2_with fail
        refine bodyPost_ret (v := .agg #[.int .i64 k, .int .i64 N, .slice (some ⟨sb, so, none⟩) 1000 lca]) (by simp [results, Tryd.results4, go_sem]) rfl ⟨k, N, (some ⟨sb, so, none⟩), 1000, lca, rfl, ⟨k1, k2, fun h => absurd h e0, fun h => absurd h e5, fun h => absurd h e0, fun _ => ⟨rfl, by omega, rfl⟩, by omega, by omega⟩, .inl rfl, ?_⟩
        repeat (first | exact Kept.refl _ _ | refine Kept.setCell ?_ _ (.inr (by simp)) _ | refine Kept.alloc ?_ _)
  · have hc : la ≤ lca := hl
    by_cases e0 : k = 0
    · subst e0
      go_wp2_with fail
      refine bodyPost_ret (v := .agg #[.int .i64 0, .int .i64 0, .slice none 0 0]) (by simp [results, Tryd.results4, go_sem]) rfl ⟨0, 0, none, 0, 0, rfl, ⟨by omega, by omega, fun _ => rfl, fun _ => rfl, fun _ => ⟨rfl, rfl, rfl⟩, fun h => absurd rfl h, by omega, by omega⟩, .inr rfl, ?_⟩
      repeat (first | exact Kept.refl _ _ | refine Kept.setCell ?_ _ (.inr (by simp)) _ | refine Kept.alloc ?_ _)
    · by_cases e5 : k = 5
      · subst e5
        go_wp2_with fail
        refine bodyPost_ret (v := .agg #[.int .i64 5, .int .i64 0, .slice ao la lca]) (by simp [results, Tryd.results4, go_sem]) rfl ⟨5, 0, ao, la, lca, rfl, ⟨by omega, by omega, fun _ => rfl, fun _ => rfl, fun h => absurd h e0, fun _ => ⟨rfl, by omega, rfl⟩, by omega, by omega⟩, .inr rfl, ?_⟩
        repeat (first | exact Kept.refl _ _ | refine Kept.setCell ?_ _ (.inr (by simp)) _ | refine Kept.alloc ?_ _)
      · have b0 : (k == 0) = false := by simpa using e0
        have b5 : (k == 5) = false := by simpa using e5
        go_wp2_with fail
        refine bodyPost_ret (v := .agg #[.int .i64 k, .int .i64 N, .slice ao la lca]) (by simp [results, Tryd.results4, go_sem]) rfl ⟨k, N, ao, la, lca, rfl, ⟨k1, k2, fun h => absurd h e0, fun h => absurd h e5, fun h => absurd h e0, fun _ => ⟨rfl, by omega, rfl⟩, by omega, by omega⟩, .inl rfl, ?_⟩
        repeat (first | exact Kept.refl _ _ | refine Kept.setCell ?_ _ (.inr (by simp)) _ | refine Kept.alloc ?_ _)

end Go.Proofs.YthkndllageopoaaDoor
