/-
  Package clock: New.
-/
import Derived.Test.YtkbcpifhbpfhlaaGreatDoorClock7
namespace Go.Proofs.YtkbcpifhbpfhlaaGreatDoor
open Go.RowKit

/-- The block of a cell that New made of 0. -/
def zeroCell : Obj := .cells #[.int .i64 0, .bool true, .int .i64 0, .int .i32 0, .int .u32 0, .chan none] 104

/-- A clock of which k slots are laid. -/
structure NewAt (w wr : World) (n k : Nat) : Prop where
  hs : wr.heap.size = n + 3 + 2 * k
  below : Below n w wr
  now : Cel wr n 0
  busy : Cel wr (n + 1) 0
  p0 : wr.cell? ⟨n + 2, 0, none⟩ = some (.pointer (some ⟨n, 0, none⟩))
  p1 : wr.cell? ⟨n + 2, 1, none⟩ = some (.pointer (some ⟨n + 1, 0, none⟩))
  ps : ∀ i, i < k → wr.cell? ⟨n + 2, 2 + 3 * i, none⟩ = some (.pointer (some ⟨n + 3 + 2 * i, 0, none⟩))
  pd : ∀ i, i < k → wr.cell? ⟨n + 2, 2 + 3 * i + 1, none⟩ = some (.pointer (some ⟨n + 4 + 2 * i, 0, none⟩))
  ns : ∀ i, k ≤ i → i < 16 → wr.cell? ⟨n + 2, 2 + 3 * i, none⟩ = some (.pointer none)
  nd : ∀ i, k ≤ i → i < 16 → wr.cell? ⟨n + 2, 2 + 3 * i + 1, none⟩ = some (.pointer none)
  pf : ∀ i, i < 16 → wr.cell? ⟨n + 2, 2 + 3 * i + 2, none⟩ = some .nilFunc
  f0 : ∀ i, i < 16 → wr.frozen? ⟨n + 2, 2 + 3 * i, none⟩ = false
  f1 : ∀ i, i < 16 → wr.frozen? ⟨n + 2, 2 + 3 * i + 1, none⟩ = false
  f2 : ∀ i, i < 16 → wr.frozen? ⟨n + 2, 2 + 3 * i + 2, none⟩ = false
  st : ∀ i, i < k → Cel wr (n + 3 + 2 * i) 0
  du : ∀ i, i < k → Cel wr (n + 4 + 2 * i) 0

theorem newAt_step {w wr : World} {n k : Nat} (H : NewAt w wr n k) (hk : k < 16) :
    NewAt w ((((((wr.setCell ⟨n + 1 + 1, 2 + k * 3, none⟩ (.pointer (some ⟨wr.heap.size, 0, none⟩))).setCell ⟨n + 1 + 1, 2 + k * 3 + 1, none⟩ (.pointer (some ⟨wr.heap.size + 1, 0, none⟩))).setCell ⟨n + 1 + 1, 2 + k * 3 + 2, none⟩ .nilFunc).alloc zeroCell).alloc zeroCell).drew) n (k + 1) := by
  have hs := H.hs
  rw [show n + 1 + 1 = n + 2 from rfl, Nat.mul_comm k 3]
  have c1 := H.ns k (Nat.le_refl _) hk
  have c2 := H.nd k (Nat.le_refl _) hk
  have c3 := H.pf k hk
  have f1 := H.f0 k hk
  have f2 := H.f1 k hk
  have f3 := H.f2 k hk
  have KV : Kept (fun b => b = n + 2) wr (((wr.setCell ⟨n + 2, 2 + 3 * k, none⟩ (.pointer (some ⟨wr.heap.size, 0, none⟩))).setCell ⟨n + 2, 2 + 3 * k + 1, none⟩ (.pointer (some ⟨wr.heap.size + 1, 0, none⟩))).setCell ⟨n + 2, 2 + 3 * k + 2, none⟩ .nilFunc) :=
    Kept.setCell (S := fun b => b = n + 2) (Kept.setCell (S := fun b => b = n + 2) (Kept.one wr ⟨n + 2, 2 + 3 * k, none⟩ _) _ (.inl rfl) _) _ (.inl rfl) _
  have hV : ∀ o, o ≠ 2 + 3 * k → o ≠ 2 + 3 * k + 1 → o ≠ 2 + 3 * k + 2 → (((wr.setCell ⟨n + 2, 2 + 3 * k, none⟩ (.pointer (some ⟨wr.heap.size, 0, none⟩))).setCell ⟨n + 2, 2 + 3 * k + 1, none⟩ (.pointer (some ⟨wr.heap.size + 1, 0, none⟩))).setCell ⟨n + 2, 2 + 3 * k + 2, none⟩ .nilFunc).cell? ⟨n + 2, o, none⟩ = wr.cell? ⟨n + 2, o, none⟩ := by
    intro o h1 h2 h3
    rw [World.cell?_setCell_other _ _ _ _ (by simp), World.cell?_setCell_other _ _ _ _ (by simp), World.cell?_setCell_other _ _ _ _ (by simp)]
  have v1 : (((wr.setCell ⟨n + 2, 2 + 3 * k, none⟩ (.pointer (some ⟨wr.heap.size, 0, none⟩))).setCell ⟨n + 2, 2 + 3 * k + 1, none⟩ (.pointer (some ⟨wr.heap.size + 1, 0, none⟩))).setCell ⟨n + 2, 2 + 3 * k + 2, none⟩ .nilFunc).cell? ⟨n + 2, 2 + 3 * k, none⟩ = some (.pointer (some ⟨wr.heap.size, 0, none⟩)) := by go_simp
  have v2 : (((wr.setCell ⟨n + 2, 2 + 3 * k, none⟩ (.pointer (some ⟨wr.heap.size, 0, none⟩))).setCell ⟨n + 2, 2 + 3 * k + 1, none⟩ (.pointer (some ⟨wr.heap.size + 1, 0, none⟩))).setCell ⟨n + 2, 2 + 3 * k + 2, none⟩ .nilFunc).cell? ⟨n + 2, 2 + 3 * k + 1, none⟩ = some (.pointer (some ⟨wr.heap.size + 1, 0, none⟩)) := by go_simp
  have v3 : (((wr.setCell ⟨n + 2, 2 + 3 * k, none⟩ (.pointer (some ⟨wr.heap.size, 0, none⟩))).setCell ⟨n + 2, 2 + 3 * k + 1, none⟩ (.pointer (some ⟨wr.heap.size + 1, 0, none⟩))).setCell ⟨n + 2, 2 + 3 * k + 2, none⟩ .nilFunc).cell? ⟨n + 2, 2 + 3 * k + 2, none⟩ = some .nilFunc := by go_simp
  have hF : ∀ o, (((wr.setCell ⟨n + 2, 2 + 3 * k, none⟩ (.pointer (some ⟨wr.heap.size, 0, none⟩))).setCell ⟨n + 2, 2 + 3 * k + 1, none⟩ (.pointer (some ⟨wr.heap.size + 1, 0, none⟩))).setCell ⟨n + 2, 2 + 3 * k + 2, none⟩ .nilFunc).frozen? ⟨n + 2, o, none⟩ = wr.frozen? ⟨n + 2, o, none⟩ := by
    intro o; simp
  have hz : (((wr.setCell ⟨n + 2, 2 + 3 * k, none⟩ (.pointer (some ⟨wr.heap.size, 0, none⟩))).setCell ⟨n + 2, 2 + 3 * k + 1, none⟩ (.pointer (some ⟨wr.heap.size + 1, 0, none⟩))).setCell ⟨n + 2, 2 + 3 * k + 2, none⟩ .nilFunc).heap.size = wr.heap.size := by simp
  generalize (((wr.setCell ⟨n + 2, 2 + 3 * k, none⟩ (.pointer (some ⟨wr.heap.size, 0, none⟩))).setCell ⟨n + 2, 2 + 3 * k + 1, none⟩ (.pointer (some ⟨wr.heap.size + 1, 0, none⟩))).setCell ⟨n + 2, 2 + 3 * k + 2, none⟩ .nilFunc) = V at KV hV v1 v2 v3 hF hz ⊢
  have K0 : Kept (fun _ => False) V ((V.alloc zeroCell).alloc zeroCell).drew := (((Kept.refl _ V).alloc _).alloc _).drew
  have KW : Kept (fun b => b = n + 2) wr ((V.alloc zeroCell).alloc zeroCell).drew := KV.trans (K0.mono fun _ _ h => h.elim)
  have hc : ∀ o, ((V.alloc zeroCell).alloc zeroCell).drew.cell? ⟨n + 2, o, none⟩ = V.cell? ⟨n + 2, o, none⟩ := fun o => K0.cell (p := ⟨n + 2, o, none⟩) (by show n + 2 < _; omega) id
  have hf : ∀ o, ((V.alloc zeroCell).alloc zeroCell).drew.frozen? ⟨n + 2, o, none⟩ = V.frozen? ⟨n + 2, o, none⟩ := fun o => K0.frozen (p := ⟨n + 2, o, none⟩) (by show n + 2 < _; omega) id
  have x1 : Cel ((V.alloc zeroCell).alloc zeroCell).drew V.heap.size 0 := ⟨by simp [zeroCell], by simp [zeroCell], by simp [zeroCell], by simp [zeroCell], by simp; omega⟩
  have x2 : Cel ((V.alloc zeroCell).alloc zeroCell).drew (V.heap.size + 1) 0 := ⟨by simp [zeroCell], by simp [zeroCell], by simp [zeroCell], by simp [zeroCell], by simp⟩
  refine ⟨by simp; omega, H.below.trans (KW.below (by omega) fun b hb => by omega), H.now.kept KW (by omega), H.busy.kept KW (by omega), ?_, ?_, ?_, ?_, ?_, ?_, ?_, ?_, ?_, ?_, ?_, ?_⟩
  · rw [hc, hV _ (by omega) (by omega) (by omega)]; exact H.p0
  · rw [hc, hV _ (by omega) (by omega) (by omega)]; exact H.p1
  · intro i hi; rw [hc]
    by_cases e : i = k
    · subst e; rw [v1, hs]
    · rw [hV _ (by omega) (by omega) (by omega)]; exact H.ps i (by omega)
  · intro i hi; rw [hc]
    by_cases e : i = k
    · subst e; rw [v2, hs, show n + 3 + 2 * i + 1 = n + 4 + 2 * i by omega]
    · rw [hV _ (by omega) (by omega) (by omega)]; exact H.pd i (by omega)
  · intro i hi hi'; rw [hc, hV _ (by omega) (by omega) (by omega)]; exact H.ns i (by omega) hi'
  · intro i hi hi'; rw [hc, hV _ (by omega) (by omega) (by omega)]; exact H.nd i (by omega) hi'
  · intro i hi; rw [hc]
    by_cases e : i = k
    · subst e; rw [v3]
    · rw [hV _ (by omega) (by omega) (by omega)]; exact H.pf i hi
  · intro i hi; rw [hf, hF]; exact H.f0 i hi
  · intro i hi; rw [hf, hF]; exact H.f1 i hi
  · intro i hi; rw [hf, hF]; exact H.f2 i hi
  · intro i hi
    by_cases e : i = k
    · subst e; rw [← hs, ← hz]; exact x1
    · exact (H.st i (by omega)).kept KW (by omega)
  · intro i hi
    by_cases e : i = k
    · subst e; rw [show n + 4 + 2 * i = n + 3 + 2 * i + 1 by omega, ← hs, ← hz]; exact x2
    · exact (H.du i (by omega)).kept KW (by omega)

theorem newAt_clk {w wr : World} {n : Nat} (H : NewAt w wr n 16) : Clk wr n 0 0 (fun _ => 0) (fun _ => 0) (fun _ => .nilFunc) :=
  ⟨by have := H.hs; omega, H.now, H.busy, H.p0, H.p1, H.ps, H.pd, H.pf, H.f2, H.st, H.du⟩

theorem or16 (i : Nat) (hi : i < 16) : i = 0 ∨ i = 1 ∨ i = 2 ∨ i = 3 ∨ i = 4 ∨ i = 5 ∨ i = 6 ∨ i = 7 ∨ i = 8 ∨ i = 9 ∨ i = 10 ∨ i = 11 ∨ i = 12 ∨ i = 13 ∨ i = 14 ∨ i = 15 := by omega

def NewRel (w : World) (n : Nat) (c : Value) (wr : World) : Prop := ∃ k : Nat, k ≤ 16 ∧ c = .int .i64 k ∧ NewAt w wr n k

/-- What New leaves. -/
def NewPost (w : World) : Ending → World → Prop := fun e w' =>
  e = .returned (.pointer (some ⟨w.heap.size + 2, 0, none⟩)) ∧ Clk w' w.heap.size 0 0 (fun _ => 0) (fun _ => 0) (fun _ => .nilFunc) ∧ Below w.heap.size w w'

set_option maxRecDepth 100000 in
set_option maxHeartbeats 800000 in
theorem new_made (w : World) : Calls Tryz.prog 5 #[] w (NewPost w) := by
  go_enter Tryz.func5, Tryz.ntmps5
  go_wp2_with fail
  refine (new_cell 0 _).mono ?_
  rintro e w' ⟨rfl, rfl⟩
  go_wp2_with fail
  refine (new_cell 0 _).mono ?_
  rintro e w' ⟨rfl, rfl⟩
  go_wp2_with fail
  go_loopw [7] (fun c wr => NewRel w w.heap.size c wr) (fun c _ => 16 - (intOf c).toNat)
  case atStart =>
    refine ⟨0, Nat.zero_le _, rfl, ⟨by simp, ?_, ?_, ?_, ?_, ?_, ?_, ?_, ?_, ?_, ?_, ?_, ?_, ?_, ?_, ?_⟩⟩
    · exact Kept.below (S := fun _ => False) ((((Kept.refl _ w).alloc _).alloc _).alloc _) (Nat.le_refl _) fun _ h => h.elim
    · exact ⟨by go_simp, by go_simp, by go_simp, by go_simp, by simp; omega⟩
    · exact ⟨by go_simp, by go_simp, by go_simp, by go_simp, by simp⟩
    · go_simp
    · go_simp
    · intro i hi; omega
    · intro i hi; omega
    · intro i _ hi; rcases or16 i hi with rfl | rfl | rfl | rfl | rfl | rfl | rfl | rfl | rfl | rfl | rfl | rfl | rfl | rfl | rfl | rfl <;> go_simp
    · intro i _ hi; rcases or16 i hi with rfl | rfl | rfl | rfl | rfl | rfl | rfl | rfl | rfl | rfl | rfl | rfl | rfl | rfl | rfl | rfl <;> go_simp
    · intro i hi; rcases or16 i hi with rfl | rfl | rfl | rfl | rfl | rfl | rfl | rfl | rfl | rfl | rfl | rfl | rfl | rfl | rfl | rfl <;> go_simp
    · intro i _; go_simp
    · intro i _; go_simp
    · intro i _; go_simp
    · intro i hi; omega
    · intro i hi; omega
  case round =>
    obtain ⟨k, hk, rfl, H⟩ := hrel
    by_cases hlt : k < 16
    · have c1 : wr.cell? ⟨w.heap.size + 2, 2 + k * 3, none⟩ = some (.pointer none) := by rw [Nat.mul_comm k 3]; exact H.ns k (Nat.le_refl _) hlt
      have c2 : wr.cell? ⟨w.heap.size + 2, 2 + k * 3 + 1, none⟩ = some (.pointer none) := by rw [Nat.mul_comm k 3]; exact H.nd k (Nat.le_refl _) hlt
      have c3 : wr.cell? ⟨w.heap.size + 2, 2 + k * 3 + 2, none⟩ = some .nilFunc := by rw [Nat.mul_comm k 3]; exact H.pf k hlt
      have f1 : wr.frozen? ⟨w.heap.size + 2, 2 + k * 3, none⟩ = false := by rw [Nat.mul_comm k 3]; exact H.f0 k hlt
      have f2 : wr.frozen? ⟨w.heap.size + 2, 2 + k * 3 + 1, none⟩ = false := by rw [Nat.mul_comm k 3]; exact H.f1 k hlt
      have f3 : wr.frozen? ⟨w.heap.size + 2, 2 + k * 3 + 2, none⟩ = false := by rw [Nat.mul_comm k 3]; exact H.f2 k hlt
      have l1 : w.heap.size + 2 < wr.heap.size := by have := H.hs; omega
      have l2 : w.heap.size + 2 < wr.heap.size + 1 := by omega
      have i1 : (k : Int) < 16 := by omega
      have i2 : (0 : Int) ≤ (k : Int) := by omega
      have X := Lib.hid H
      clear H
      go_wp2_with fail
      go_region_with (go_at_call 18; refine (new_cell 0 _).mono ?_; rintro e w' ⟨rfl, rfl⟩)
      go_wp2_with fail
      go_roundw
      case rel => exact ⟨k + 1, by omega, by go_num, newAt_step X.out hlt⟩
      case measure => simp [intOf]; omega
    · obtain rfl : k = 16 := by omega
      have X := Lib.hid H
      clear H
      go_wp2_with fail
      go_ret
      exact ⟨rfl, newAt_clk X.out, X.out.below⟩

end Go.Proofs.YtkbcpifhbpfhlaaGreatDoor
