/-
  Package list, a nil thread: Add and Close of a list of two places.
-/
import Derived.Test.YtcklfdlkgohgiaaList3
namespace Go.Proofs.Ytcklfdlkgohgiaa
open Go.RowKit

theorem live_last {w : World} {B b l h p : Nat} {n hd : Int} {x0 x1 : Value} (L : Live w B b l h p n hd x0 x1) (m : Int) : Live (w.setCell ⟨l, 0, none⟩ (.int .i64 m)) B b l h p m hd x0 x1 := by
  have b0 := L.b0
  have b1 := L.b1
  have b2 := L.b2
  have l0 := L.l0
  have l1 := L.l1
  have l2 := L.l2
  have lf := L.lf
  have h0 := L.h0
  have h1 := L.h1
  have h2 := L.h2
  have hf := L.hf
  have p0 := L.p0
  have p1 := L.p1
  have f0 := L.f0
  have f1 := L.f1
  obtain ⟨lt1, lt2, lt3, lt4⟩ := L.lt
  obtain ⟨n1, n2, n3, n4, n5, n6⟩ := L.ne
  have m1 : l ≠ b := fun e => n1 e.symm
  refine ⟨L.ge, ?_, L.ne, ?_, ?_, ?_, ?_, ?_, ?_, ?_, ?_, ?_, ?_, ?_, ?_, ?_, ?_, ?_⟩
  · simp; omega
  all_goals go_simp

theorem live_head {w : World} {B b l h p : Nat} {n hd : Int} {x0 x1 : Value} (L : Live w B b l h p n hd x0 x1) (m : Int) : Live (w.setCell ⟨h, 0, none⟩ (.int .i64 m)) B b l h p n m x0 x1 := by
  have b0 := L.b0
  have b1 := L.b1
  have b2 := L.b2
  have l0 := L.l0
  have l1 := L.l1
  have l2 := L.l2
  have lf := L.lf
  have h0 := L.h0
  have h1 := L.h1
  have h2 := L.h2
  have hf := L.hf
  have p0 := L.p0
  have p1 := L.p1
  have f0 := L.f0
  have f1 := L.f1
  obtain ⟨lt1, lt2, lt3, lt4⟩ := L.lt
  obtain ⟨n1, n2, n3, n4, n5, n6⟩ := L.ne
  have m1 : h ≠ b := fun e => n2 e.symm
  have m2 : h ≠ l := fun e => n4 e.symm
  refine ⟨L.ge, ?_, L.ne, ?_, ?_, ?_, ?_, ?_, ?_, ?_, ?_, ?_, ?_, ?_, ?_, ?_, ?_, ?_⟩
  · simp; omega
  all_goals go_simp

theorem inc_1 (b : Nat) (w : World) (h0 : w.cell? ⟨b, 0, none⟩ = some (.int .i64 0)) (h1 : w.cell? ⟨b, 1, none⟩ = some (.bool true)) (h2 : w.cell? ⟨b, 2, none⟩ = some (.int .i64 0)) (f0 : w.frozen? ⟨b, 0, none⟩ = false) :
    Calls Try.prog 12 #[.pointer (some ⟨b, 0, none⟩), .pointer none, .int .i64 1] w fun e w' => e = .returned (.int .i64 1) ∧ w' = w.setCell ⟨b, 0, none⟩ (.int .i64 1) := by
  have e : wrap64 ((0 : Int) + 1) = 1 := by unfold wrap64; omega
  have h := add_free b 0 1 w h0 h1 h2 f0
  rwa [e] at h

theorem inc_2 (b : Nat) (w : World) (h0 : w.cell? ⟨b, 0, none⟩ = some (.int .i64 1)) (h1 : w.cell? ⟨b, 1, none⟩ = some (.bool true)) (h2 : w.cell? ⟨b, 2, none⟩ = some (.int .i64 0)) (f0 : w.frozen? ⟨b, 0, none⟩ = false) :
    Calls Try.prog 12 #[.pointer (some ⟨b, 0, none⟩), .pointer none, .int .i64 1] w fun e w' => e = .returned (.int .i64 2) ∧ w' = w.setCell ⟨b, 0, none⟩ (.int .i64 2) := by
  have e : wrap64 ((1 : Int) + 1) = 2 := by unfold wrap64; omega
  have h := add_free b 1 1 w h0 h1 h2 f0
  rwa [e] at h

theorem inc_3 (b : Nat) (w : World) (h0 : w.cell? ⟨b, 0, none⟩ = some (.int .i64 2)) (h1 : w.cell? ⟨b, 1, none⟩ = some (.bool true)) (h2 : w.cell? ⟨b, 2, none⟩ = some (.int .i64 0)) (f0 : w.frozen? ⟨b, 0, none⟩ = false) :
    Calls Try.prog 12 #[.pointer (some ⟨b, 0, none⟩), .pointer none, .int .i64 1] w fun e w' => e = .returned (.int .i64 3) ∧ w' = w.setCell ⟨b, 0, none⟩ (.int .i64 3) := by
  have e : wrap64 ((2 : Int) + 1) = 3 := by unfold wrap64; omega
  have h := add_free b 2 1 w h0 h1 h2 f0
  rwa [e] at h

/-- What an Add that puts a place on leaves. -/
def AddPost (w : World) (B b l h p : Nat) (k v hd : Int) (x0 x1 : Nat → Value) : Ending → World → Prop := fun e w' =>
  ∃ q : Nat, e = .returned (.tuple #[.int .i64 k, .int .i64 0]) ∧ (w.heap.size ≤ q ∧ q < w'.heap.size) ∧ Live w' B b l h p k k (x0 q) (x1 q) ∧
    w'.cell? ⟨q, 0, none⟩ = some (.int .i64 v) ∧ w'.cell? ⟨q, 1, none⟩ = some (.int .i64 hd) ∧ Below B w w' ∧
    ∀ c i, c < w.heap.size → c ≠ l → c ≠ h → c ≠ p → w'.cell? ⟨c, i, none⟩ = w.cell? ⟨c, i, none⟩

set_option maxRecDepth 100000 in
set_option maxHeartbeats 800000 in
theorem add_1 (v : Int) (w : World) (B b l h p : Nat) (L : Live w B b l h p 0 0 (.pointer none) (.pointer none)) (hB : B ≤ w.heap.size) :
    Calls Try.prog 5 #[.pointer (some ⟨b, 0, none⟩), .pointer none, .int .i64 v] w (AddPost w B b l h p 1 v 0 (fun q => .pointer (some ⟨q, 0, none⟩)) (fun _ => .pointer none)) := by
  have b0 := L.b0
  have b1 := L.b1
  have b2 := L.b2
  have l0 := L.l0
  have l1 := L.l1
  have l2 := L.l2
  have lf := L.lf
  have h0 := L.h0
  have h1 := L.h1
  have h2 := L.h2
  have hf := L.hf
  obtain ⟨lt1, lt2, lt3, lt4⟩ := L.lt
  obtain ⟨n1, n2, n3, n4, n5, n6⟩ := L.ne
  have m1 : l ≠ b := fun e => n1 e.symm
  have L2 : Hid (Live (w.setCell ⟨l, 0, none⟩ (.int .i64 1)) B b l h p 1 0 (.pointer none) (.pointer none)) := live_last L 1
  have hsz : Hid ((w.setCell ⟨l, 0, none⟩ (.int .i64 1)).heap.size = w.heap.size) := by show _ = _; simp
  go_enter Try.func5, Try.ntmps5
  go_wp2_with (first
    | (go_at_call 10; refine (lnone_made b ⟨h, 0, none⟩ _ b1).mono ?_; rintro e w' ⟨rfl, rfl⟩)
    | (go_at_call 11; refine (load_free h 0 _ h0 h1).mono ?_; rintro e w' ⟨rfl, rfl⟩)
    | (go_at_call 12; refine (inc_1 l _ l0 l1 l2 lf).mono ?_; rintro e w' ⟨rfl, rfl⟩))
  refine (put_1 v _ B b l h p L2 (by rw [hsz]; exact hB)).mono ?_
  rintro e w' ⟨q, rfl, H⟩
  have X : Hid _ := H
  clear H
  go_wp2_with fail
  go_ret2
  obtain ⟨g1, g2, g3, g4, g5, g6⟩ := X
  rw [hsz] at g1 g6
  refine ⟨q, rfl, g1, g2, g3, g4, ?_, fun c i hc nl nh np => ?_⟩
  · exact ((Below.refl _ _).setCell (p := ⟨l, 0, none⟩) L.ge.2.1 _).trans g5
  · rw [g6 c i hc nh np, World.cell?_setCell_other _ _ _ _ (by simp; try exact fun e => (nl e.symm))]

set_option maxRecDepth 100000 in
set_option maxHeartbeats 800000 in
theorem add_2 (v : Int) (w : World) (B b l h p q0 : Nat) (L : Live w B b l h p 1 1 (.pointer (some ⟨q0, 0, none⟩)) (.pointer none)) (hB : B ≤ w.heap.size) :
    Calls Try.prog 5 #[.pointer (some ⟨b, 0, none⟩), .pointer none, .int .i64 v] w (AddPost w B b l h p 2 v 1 (fun _ => .pointer (some ⟨q0, 0, none⟩)) (fun q => .pointer (some ⟨q, 0, none⟩))) := by
  have b0 := L.b0
  have b1 := L.b1
  have b2 := L.b2
  have l0 := L.l0
  have l1 := L.l1
  have l2 := L.l2
  have lf := L.lf
  have h0 := L.h0
  have h1 := L.h1
  have h2 := L.h2
  have hf := L.hf
  obtain ⟨lt1, lt2, lt3, lt4⟩ := L.lt
  obtain ⟨n1, n2, n3, n4, n5, n6⟩ := L.ne
  have m1 : l ≠ b := fun e => n1 e.symm
  have L2 : Hid (Live (w.setCell ⟨l, 0, none⟩ (.int .i64 2)) B b l h p 2 1 (.pointer (some ⟨q0, 0, none⟩)) (.pointer none)) := live_last L 2
  have hsz : Hid ((w.setCell ⟨l, 0, none⟩ (.int .i64 2)).heap.size = w.heap.size) := by show _ = _; simp
  go_enter Try.func5, Try.ntmps5
  go_wp2_with (first
    | (go_at_call 10; refine (lnone_made b ⟨h, 0, none⟩ _ b1).mono ?_; rintro e w' ⟨rfl, rfl⟩)
    | (go_at_call 11; refine (load_free h 1 _ h0 h1).mono ?_; rintro e w' ⟨rfl, rfl⟩)
    | (go_at_call 12; refine (inc_2 l _ l0 l1 l2 lf).mono ?_; rintro e w' ⟨rfl, rfl⟩))
  refine (put_2 v _ B b l h p q0 L2 (by rw [hsz]; exact hB)).mono ?_
  rintro e w' ⟨q, rfl, H⟩
  have X : Hid _ := H
  clear H
  go_wp2_with fail
  go_ret2
  obtain ⟨g1, g2, g3, g4, g5, g6⟩ := X
  rw [hsz] at g1 g6
  refine ⟨q, rfl, g1, g2, g3, g4, ?_, fun c i hc nl nh np => ?_⟩
  · exact ((Below.refl _ _).setCell (p := ⟨l, 0, none⟩) L.ge.2.1 _).trans g5
  · rw [g6 c i hc nh np, World.cell?_setCell_other _ _ _ _ (by simp; try exact fun e => (nl e.symm))]

/-- An Add for which there is no place: last is counted on, no more. -/
theorem add_full (v : Int) (w : World) (B b l h p : Nat) (x0 x1 : Value) (L : Live w B b l h p 2 2 x0 x1) :
    Calls Try.prog 5 #[.pointer (some ⟨b, 0, none⟩), .pointer none, .int .i64 v] w fun e w' => e = .returned (.tuple #[.int .i64 0, .int .i64 12]) ∧ w' = w.setCell ⟨l, 0, none⟩ (.int .i64 3) := by
  have b0 := L.b0
  have b1 := L.b1
  have b2 := L.b2
  have l0 := L.l0
  have l1 := L.l1
  have l2 := L.l2
  have lf := L.lf
  have h0 := L.h0
  have h1 := L.h1
  have h2 := L.h2
  have hf := L.hf
  obtain ⟨lt1, lt2, lt3, lt4⟩ := L.lt
  obtain ⟨n1, n2, n3, n4, n5, n6⟩ := L.ne
  have m1 : l ≠ b := fun e => n1 e.symm
  go_enter Try.func5, Try.ntmps5
  go_wp2_with (first
    | (go_at_call 10; refine (lnone_made b ⟨h, 0, none⟩ _ b1).mono ?_; rintro e w' ⟨rfl, rfl⟩)
    | (go_at_call 11; refine (load_free h 2 _ h0 h1).mono ?_; rintro e w' ⟨rfl, rfl⟩)
    | (go_at_call 12; refine (inc_3 l _ l0 l1 l2 lf).mono ?_; rintro e w' ⟨rfl, rfl⟩))
  go_ret2
  exact ⟨rfl, rfl⟩

def ClosePost (w : World) (B b l h p : Nat) (n : Int) (x0 x1 : Value) (u v : Int) : Ending → World → Prop := fun e w' =>
  ∃ g cap : Nat, e = .returned (.tuple #[.slice (some ⟨g, 0, none⟩) 2 cap, .int .i64 0]) ∧ (w.heap.size ≤ g ∧ g < w'.heap.size) ∧ w'.cell? ⟨g, 0, none⟩ = some (.int .i64 u) ∧ w'.cell? ⟨g, 1, none⟩ = some (.int .i64 v) ∧
    Live w' B b l h p n (-1) x0 x1 ∧ Below B w w'

theorem live_below {w w' : World} {B b l h p : Nat} {n hd : Int} {x0 x1 : Value} (L : Live w B b l h p n hd x0 x1) (hb : Below w.heap.size w w') : Live w' B b l h p n hd x0 x1 := by
  obtain ⟨lt1, lt2, lt3, lt4⟩ := L.lt
  obtain ⟨hc, hf⟩ := bcells hb
  have hz := hb.size
  refine ⟨L.ge, ⟨by omega, by omega, by omega, by omega⟩, L.ne, ?_, ?_, ?_, ?_, ?_, ?_, ?_, ?_, ?_, ?_, ?_, ?_, ?_, ?_, ?_⟩
  · rw [hc _ _ lt1]; exact L.b0
  · rw [hc _ _ lt1]; exact L.b1
  · rw [hc _ _ lt1]; exact L.b2
  · rw [hc _ _ lt2]; exact L.l0
  · rw [hc _ _ lt2]; exact L.l1
  · rw [hc _ _ lt2]; exact L.l2
  · rw [hf _ _ lt2]; exact L.lf
  · rw [hc _ _ lt3]; exact L.h0
  · rw [hc _ _ lt3]; exact L.h1
  · rw [hc _ _ lt3]; exact L.h2
  · rw [hf _ _ lt3]; exact L.hf
  · rw [hc _ _ lt4]; exact L.p0
  · rw [hc _ _ lt4]; exact L.p1
  · rw [hf _ _ lt4]; exact L.f0
  · rw [hf _ _ lt4]; exact L.f1

set_option maxRecDepth 100000 in
set_option maxHeartbeats 800000 in
theorem close_two (w : World) (B b l h p q0 q1 : Nat) (n x0 x1 : Int) (L : Live w B b l h p n 2 (.pointer (some ⟨q0, 0, none⟩)) (.pointer (some ⟨q1, 0, none⟩)))
    (s0 : q0 < w.heap.size) (s1 : q1 < w.heap.size) (t0 : h ≠ q0) (t1 : h ≠ q1) (c0 : w.cell? ⟨q0, 0, none⟩ = some (.int .i64 x0)) (c1 : w.cell? ⟨q0, 1, none⟩ = some (.int .i64 0))
    (d0 : w.cell? ⟨q1, 0, none⟩ = some (.int .i64 x1)) (d1 : w.cell? ⟨q1, 1, none⟩ = some (.int .i64 1)) :
    Calls Try.prog 6 #[.pointer (some ⟨b, 0, none⟩), .pointer none] w (ClosePost w B b l h p n (.pointer (some ⟨q0, 0, none⟩)) (.pointer (some ⟨q1, 0, none⟩)) x0 x1) := by
  have b0 := L.b0
  have b1 := L.b1
  have b2 := L.b2
  have l0 := L.l0
  have l1 := L.l1
  have l2 := L.l2
  have lf := L.lf
  have h0 := L.h0
  have h1 := L.h1
  have h2 := L.h2
  have hf := L.hf
  obtain ⟨lt1, lt2, lt3, lt4⟩ := L.lt
  obtain ⟨n1, n2, n3, n4, n5, n6⟩ := L.ne
  have L2 : Hid (Live (w.setCell ⟨h, 0, none⟩ (.int .i64 (-1))) B b l h p n (-1) (.pointer (some ⟨q0, 0, none⟩)) (.pointer (some ⟨q1, 0, none⟩))) := live_head L (-1)
  have hsz : Hid ((w.setCell ⟨h, 0, none⟩ (.int .i64 (-1))).heap.size = w.heap.size) := by show _ = _; simp
  have hrow : Hid (Calls Try.prog 15 #[.pointer (some ⟨b, 0, none⟩), .int .i64 2] (w.setCell ⟨h, 0, none⟩ (.int .i64 (-1))) (RowPost (w.setCell ⟨h, 0, none⟩ (.int .i64 (-1))) x0 x1)) := by
    refine row_two _ B b l h p q0 q1 n (-1) x0 x1 L2 (by rw [hsz]; exact s0) (by rw [hsz]; exact s1) ?_ ?_ ?_ ?_
    all_goals (rw [World.cell?_setCell_other _ _ _ _ (by simp; try omega)]; assumption)
  go_enter Try.func6, Try.ntmps6
  go_wp2_with (first
    | (go_at_call 10; refine (lnone_made b ⟨h, 0, none⟩ _ b1).mono ?_; rintro e w' ⟨rfl, rfl⟩)
    | (go_at_call 14; refine (swap_free h 2 (-1) _ h0 h1 h2 hf).mono ?_; rintro e w' ⟨rfl, rfl⟩))
  refine hrow.mono ?_
  rintro e w' ⟨g, cap, rfl, H⟩
  have X : Hid _ := H
  clear H
  go_wp2_with fail
  go_ret2
  obtain ⟨g1, g2, g3, g4, g5⟩ := X
  have g6 := live_below L2 g5
  rw [hsz] at g1
  exact ⟨g, cap, rfl, ⟨g1, g2⟩, g3, g4, g6, ((Below.refl _ _).setCell (p := ⟨h, 0, none⟩) L.ge.2.2.1 _).trans (g5.mono (by rw [hsz]; have := L.lt; have := L.ge; omega))⟩

theorem close_shut (w : World) (B b l h p : Nat) (n : Int) (x0 x1 : Value) (L : Live w B b l h p n (-1) x0 x1) :
    Calls Try.prog 6 #[.pointer (some ⟨b, 0, none⟩), .pointer none] w fun e w' => e = .returned (.tuple #[.slice none 0 0, .int .i64 13]) ∧ w' = w.setCell ⟨h, 0, none⟩ (.int .i64 (-1)) := by
  have b0 := L.b0
  have b1 := L.b1
  have b2 := L.b2
  have l0 := L.l0
  have l1 := L.l1
  have l2 := L.l2
  have lf := L.lf
  have h0 := L.h0
  have h1 := L.h1
  have h2 := L.h2
  have hf := L.hf
  obtain ⟨lt1, lt2, lt3, lt4⟩ := L.lt
  obtain ⟨n1, n2, n3, n4, n5, n6⟩ := L.ne
  go_enter Try.func6, Try.ntmps6
  go_wp2_with (first
    | (go_at_call 10; refine (lnone_made b ⟨h, 0, none⟩ _ b1).mono ?_; rintro e w' ⟨rfl, rfl⟩)
    | (go_at_call 14; refine (swap_free h (-1) (-1) _ h0 h1 h2 hf).mono ?_; rintro e w' ⟨rfl, rfl⟩))
  go_ret2
  exact ⟨rfl, rfl⟩

end Go.Proofs.Ytcklfdlkgohgiaa
