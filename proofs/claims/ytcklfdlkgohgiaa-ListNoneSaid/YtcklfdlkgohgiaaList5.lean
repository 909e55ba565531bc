/-
  treadlelaw09: works and ListNone, walked.
-/
import Derived.Test.YtcklfdlkgohgiaaList4
namespace Go.Proofs.Ytcklfdlkgohgiaa
open Go.RowKit

theorem live_fresh {w w' : World} {b l h p : Nat} (F : Fresh w 2 b l h p w') : Live w' w.heap.size b l h p 0 0 (.pointer none) (.pointer none) := by
  obtain ⟨sb, sl, sh, sp, ne, cb, cl, ch, cp, hb⟩ := F
  refine ⟨⟨sb.1, sl.1, sh.1, sp.1⟩, ⟨sb.2, sl.2, sh.2, sp.2⟩, ne, ?_, ?_, ?_, ?_, ?_, ?_, ?_, ?_, ?_, ?_, ?_, ?_, ?_, ?_, ?_⟩
  all_goals first
    | (simp [World.cell?, cb]; done)
    | (simp [World.cell?, cl]; done)
    | (simp [World.cell?, ch]; done)
    | (simp [World.cell?, cp, madeCells]; done)
    | (simp [World.frozen?, cl]; done)
    | (simp [World.frozen?, ch]; done)
    | (simp [World.frozen?, cp]; done)

theorem lnew_two (w : World) : Calls Try.prog 4 #[.int .i64 2] w (NewPost w 2) := lnew_made 2 (by decide) w

/-- The answer is true; below the heap as it was nothing has turned. -/
def WorksPost (w : World) : Ending → World → Prop := fun e w' => e = .returned (.bool true) ∧ Below w.heap.size w w'

theorem close_after (w w1 w2 w3 : World) (b l h p q0 q1 : Nat) (L0 : Hid (Live w1 w.heap.size b l h p 0 0 (.pointer none) (.pointer none)))
    (X1 : Hid ((w1.heap.size ≤ q0 ∧ q0 < w2.heap.size) ∧ Live w2 w.heap.size b l h p 1 1 (.pointer (some ⟨q0, 0, none⟩)) (.pointer none) ∧
      w2.cell? ⟨q0, 0, none⟩ = some (.int .i64 7) ∧ w2.cell? ⟨q0, 1, none⟩ = some (.int .i64 0) ∧ Below w.heap.size w1 w2 ∧
      ∀ c i, c < w1.heap.size → c ≠ l → c ≠ h → c ≠ p → w2.cell? ⟨c, i, none⟩ = w1.cell? ⟨c, i, none⟩))
    (X2 : Hid ((w2.heap.size ≤ q1 ∧ q1 < w3.heap.size) ∧ Live w3 w.heap.size b l h p 2 2 (.pointer (some ⟨q0, 0, none⟩)) (.pointer (some ⟨q1, 0, none⟩)) ∧
      w3.cell? ⟨q1, 0, none⟩ = some (.int .i64 8) ∧ w3.cell? ⟨q1, 1, none⟩ = some (.int .i64 1) ∧ Below w.heap.size w2 w3 ∧
      ∀ c i, c < w2.heap.size → c ≠ l → c ≠ h → c ≠ p → w3.cell? ⟨c, i, none⟩ = w2.cell? ⟨c, i, none⟩)) :
    Hid (Calls Try.prog 6 #[.pointer (some ⟨b, 0, none⟩), .pointer none] (w3.setCell ⟨l, 0, none⟩ (.int .i64 3))
      (ClosePost (w3.setCell ⟨l, 0, none⟩ (.int .i64 3)) w.heap.size b l h p 3 (.pointer (some ⟨q0, 0, none⟩)) (.pointer (some ⟨q1, 0, none⟩)) 7 8)) := by
  obtain ⟨_, ll, lh, lp⟩ := L0.out.lt
  obtain ⟨⟨a1, a2⟩, _, a3, a4, a5, _⟩ := X1
  obtain ⟨⟨b1, b2⟩, L2, b3, b4, b5, b6⟩ := X2
  have z1 := a5.size
  have z2 := b5.size
  refine close_two _ w.heap.size b l h p q0 q1 3 7 8 (live_last L2 3) ?_ ?_ ?_ ?_ ?_ ?_ ?_ ?_
  · simp; omega
  · simp; omega
  · omega
  · omega
  · rw [World.cell?_setCell_other _ _ _ _ (by simp), b6 _ _ a2 (by omega) (by omega) (by omega)]; exact a3
  · rw [World.cell?_setCell_other _ _ _ _ (by simp), b6 _ _ a2 (by omega) (by omega) (by omega)]; exact a4
  · rw [World.cell?_setCell_other _ _ _ _ (by simp)]; exact b3
  · rw [World.cell?_setCell_other _ _ _ _ (by simp)]; exact b4

theorem below_after (w w1 w2 w3 : World) (b l h p q0 q1 : Nat) (L0 : Hid (Live w1 w.heap.size b l h p 0 0 (.pointer none) (.pointer none))) (HB0 : Hid (Below w.heap.size w w1))
    (X1 : Hid ((w1.heap.size ≤ q0 ∧ q0 < w2.heap.size) ∧ Live w2 w.heap.size b l h p 1 1 (.pointer (some ⟨q0, 0, none⟩)) (.pointer none) ∧
      w2.cell? ⟨q0, 0, none⟩ = some (.int .i64 7) ∧ w2.cell? ⟨q0, 1, none⟩ = some (.int .i64 0) ∧ Below w.heap.size w1 w2 ∧
      ∀ c i, c < w1.heap.size → c ≠ l → c ≠ h → c ≠ p → w2.cell? ⟨c, i, none⟩ = w1.cell? ⟨c, i, none⟩))
    (X2 : Hid ((w2.heap.size ≤ q1 ∧ q1 < w3.heap.size) ∧ Live w3 w.heap.size b l h p 2 2 (.pointer (some ⟨q0, 0, none⟩)) (.pointer (some ⟨q1, 0, none⟩)) ∧
      w3.cell? ⟨q1, 0, none⟩ = some (.int .i64 8) ∧ w3.cell? ⟨q1, 1, none⟩ = some (.int .i64 1) ∧ Below w.heap.size w2 w3 ∧
      ∀ c i, c < w2.heap.size → c ≠ l → c ≠ h → c ≠ p → w3.cell? ⟨c, i, none⟩ = w2.cell? ⟨c, i, none⟩)) :
    Hid (Below w.heap.size w (w3.setCell ⟨l, 0, none⟩ (.int .i64 3))) := by
  have hl := L0.out.ge.2.1
  exact ((HB0.out.trans X1.2.2.2.2.1).trans X2.2.2.2.2.1).setCell (p := ⟨l, 0, none⟩) hl _

set_option maxRecDepth 100000 in
set_option maxHeartbeats 1600000 in
theorem works_any (w : World) : Calls Try.prog 8 #[] w (WorksPost w) := by
  go_enter Try.func8, Try.ntmps8
  go_wp2_with fail
  refine (lnew_two w).mono ?_
  rintro e w1 ⟨b, l, h, p, rfl, F⟩
  have L0 : Hid (Live w1 w.heap.size b l h p 0 0 (.pointer none) (.pointer none)) := live_fresh F
  have HB0 : Hid (Below w.heap.size w w1) := F.below
  clear F
  go_wp2_with fail
  refine (add_1 7 w1 w.heap.size b l h p L0 HB0.size).mono ?_
  rintro e w2 ⟨q0, rfl, H⟩
  have X1 : Hid _ := H
  clear H
  go_wp2_with fail
  refine (add_2 8 w2 w.heap.size b l h p q0 X1.2.1 (Nat.le_trans HB0.size X1.2.2.2.2.1.size)).mono ?_
  rintro e w3 ⟨q1, rfl, H⟩
  have X2 : Hid _ := H
  clear H
  go_wp2_with fail
  refine (add_full 9 w3 w.heap.size b l h p _ _ X2.2.1).mono ?_
  rintro e w4 ⟨rfl, rfl⟩
  have HC := close_after w w1 w2 w3 b l h p q0 q1 L0 X1 X2
  have HB := below_after w w1 w2 w3 b l h p q0 q1 L0 HB0 X1 X2
  have HL : Hid (l < w1.heap.size ∧ h < w1.heap.size) := ⟨L0.lt.2.1, L0.lt.2.2.1⟩
  have HG : Hid (w.heap.size ≤ h) := L0.ge.2.2.1
  have HS : Hid (w1.heap.size ≤ w3.heap.size) := Nat.le_trans X1.2.2.2.2.1.size X2.2.2.2.2.1.size
  clear X1 X2 L0
  go_wp2_with fail
  refine HC.mono ?_
  rintro e w4 ⟨g, cap, rfl, H⟩
  have X3 : Hid _ := H
  clear H
  go_wp2_with fail
  refine (close_shut w4 w.heap.size b l h p 3 _ _ X3.2.2.2.1).mono ?_
  rintro e w5 ⟨rfl, rfl⟩
  have hgh : h ≠ g := by
    have a := X3.1.1
    rw [World.size_setCell] at a
    have b := HS.out
    have c := HL.out.2
    omega
  have r0 : (w4.setCell ⟨h, 0, none⟩ (.int .i64 (-1))).cell? ⟨g, 0, none⟩ = some (.int .i64 7) := by
    rw [World.cell?_setCell_other _ _ _ _ (by simp; try omega)]; exact X3.2.1
  have r1 : (w4.setCell ⟨h, 0, none⟩ (.int .i64 (-1))).cell? ⟨g, 1, none⟩ = some (.int .i64 8) := by
    rw [World.cell?_setCell_other _ _ _ _ (by simp; try omega)]; exact X3.2.2.1
  go_wp2_with fail
  go_ret
  exact ⟨rfl, (HB.out.trans X3.2.2.2.2).setCell (p := ⟨h, 0, none⟩) HG _⟩

end Go.Proofs.Ytcklfdlkgohgiaa
