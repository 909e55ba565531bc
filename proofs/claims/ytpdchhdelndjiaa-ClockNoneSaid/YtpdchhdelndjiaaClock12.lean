/-
  treadlelaw10.ClockNone, walked.
-/
import Derived.Test.YtpdchhdelndjiaaClock11
namespace Go.Proofs.Ytpdchhdelndjiaa
open Go.RowKit

theorem run_neq_zero (w : World) : (binOp BinOp.neq 32 (.agg #[.int .i64 0, .int .i64 0]) (.agg #[.int .i64 0, .int .i64 0])).run Try.prog w = .ok (.bool false) w := by kernel_rfl

theorem zero_not {b : Int} (h2 : b.tmod 4 = 2) : ¬ (0 : Int) = b := by
  rintro rfl
  exact absurd h2 (by decide)

theorem ring_not {j : Nat} {b : Int} (h1 : (0 : Int) = j) (hr : ¬ b = 2) : ¬ put z0 0 2 j = b := by
  obtain rfl : j = 0 := by omega
  exact fun h => hr h.symm

theorem now_nil' (w : World) : Calls Try.prog 8 #[.pointer none, .pointer none] w fun e w' => e = .returned (.int .i64 0) ∧ w = w' :=
  (now_nil w).mono fun _ _ h => ⟨h.1, h.2.symm⟩

theorem now_bare' (b : Nat) (w : World) (h : w.cell? ⟨b, 0, none⟩ = some (.pointer none)) : Calls Try.prog 8 #[.pointer (some ⟨b, 0, none⟩), .pointer none] w fun e w' => e = .returned (.int .i64 0) ∧ w = w' :=
  (now_bare b w h).mono fun _ _ h => ⟨h.1, h.2.symm⟩

/-- A Stop of no timer that is set: it answers false, whatever is asked. -/
theorem stop_false (n : Nat) (a b now busy : Int) (s d : Nat → Int) (f : Nat → Value) (h : ∀ j : Nat, j < 16 → a = j → b.tmod 4 = 2 → ¬ s j = b) (w : World) (C : Clk w n now busy s d f) :
    Calls Try.prog 7 #[.pointer (some ⟨n + 2, 0, none⟩), .pointer none, .agg #[.int .i64 a, .int .i64 b]] w fun e w' => e = .returned (.bool false) ∧ Below w.heap.size w w' := by
  by_cases h1 : a < 0
  · exact stop_below n a b now busy s d f h1 w C
  by_cases h2 : 16 ≤ a
  · exact stop_above n a b now busy s d f h2 w C
  obtain ⟨j, rfl⟩ := Int.eq_ofNat_of_zero_le (by omega : 0 ≤ a)
  by_cases h3 : b.tmod 4 = 2
  · exact stop_miss n j b now busy s d f (by omega) h3 (h j (by omega) rfl h3) w C
  · exact stop_kind n j b now busy s d f (by omega) h3 w C

set_option maxRecDepth 100000 in
set_option maxHeartbeats 1600000 in
theorem walk_low (slot ring due : Int) (hd : due < 0) (w : World) : Calls Try.prog 3 #[.int .i64 slot, .int .i64 ring, .int .i64 due] w (TruePost w) := by
  have g1 : decide (0 ≤ due) = false := by simp; omega
  have hz := run_neq_zero
  go_enter Try.func3, Try.ntmps3
  go_wp2_with fail
  refine (set_nil due (.func 4) #[] #[] _).mono ?_
  rintro e W1 ⟨rfl, hB⟩
  have s1 : w.heap.size < W1.heap.size := by have := hB.size; simp at this; omega
  have b1 : W1.cell? ⟨w.heap.size, 0, none⟩ = some (.pointer none) := (hB.cell (p := ⟨w.heap.size, 0, none⟩) (by simp)).trans (by simp)
  have B1 := Lib.hid (((Below.refl _ _).alloc (Nat.le_refl _) _).trans (hB.mono (by simp)) : Below w.heap.size w W1)
  clear hB
  go_wp2_with fail
  refine (set_bare w.heap.size due (.func 4) #[] #[] _ (by go_simp) (by simp; omega)).mono ?_
  rintro e W2 ⟨rfl, hB⟩
  have s2 : W1.heap.size < W2.heap.size := by have := hB.size; simp at this; omega
  have b2 : W2.cell? ⟨w.heap.size, 0, none⟩ = some (.pointer none) := (hB.cell (p := ⟨w.heap.size, 0, none⟩) (by simp; omega)).trans (by go_simp)
  have x2 : W2.cell? ⟨W1.heap.size, 0, none⟩ = some (.int .i64 0) := (hB.cell (p := ⟨W1.heap.size, 0, none⟩) (by simp)).trans (by simp)
  have y2 : W2.cell? ⟨W1.heap.size, 1, none⟩ = some (.int .i64 0) := (hB.cell (p := ⟨W1.heap.size, 1, none⟩) (by simp)).trans (by simp)
  have B2 := Lib.hid ((B1.out.alloc (by omega) _).trans (hB.mono (by simp; omega)) : Below w.heap.size w W2)
  have s2' : w.heap.size < W2.heap.size := by omega
  clear hB b1 B1
  go_wp2_with fail
  refine (adv_nil _ _).mono ?_
  rintro e W3 ⟨rfl, rfl⟩
  go_wp2_with fail
  refine (adv_bare _ w.heap.size _ (by go_simp)).mono ?_
  rintro e W3 ⟨rfl, rfl⟩
  go_wp2_with fail
  refine (stop_nil _ slot ring rfl _).mono ?_
  rintro e W4 ⟨rfl, hB⟩
  have s4 : W2.heap.size + 1 < W4.heap.size := by have := hB.size; simp at this; omega
  have b4 : W4.cell? ⟨w.heap.size, 0, none⟩ = some (.pointer none) := (hB.cell (p := ⟨w.heap.size, 0, none⟩) (by simp; omega)).trans (by go_simp)
  have x4 : W4.cell? ⟨W2.heap.size + 1, 0, none⟩ = some (.int .i64 slot) := (hB.cell (p := ⟨W2.heap.size + 1, 0, none⟩) (by simp)).trans (by go_simp)
  have y4 : W4.cell? ⟨W2.heap.size + 1, 1, none⟩ = some (.int .i64 ring) := (hB.cell (p := ⟨W2.heap.size + 1, 1, none⟩) (by simp)).trans (by go_simp)
  have B4 := Lib.hid (((B2.out.alloc (by omega) _).alloc (by simp; omega) _).trans (hB.mono (by simp; omega)) : Below w.heap.size w W4)
  clear hB x2 y2 b2 B2
  go_wp2_with fail
  refine (stop_bare w.heap.size _ slot ring rfl _ b4 (by omega)).mono ?_
  rintro e W5 ⟨rfl, hB⟩
  have s5 : W4.heap.size ≤ W5.heap.size := hB.size
  have b5 : W5.cell? ⟨w.heap.size, 0, none⟩ = some (.pointer none) := (hB.cell (p := ⟨w.heap.size, 0, none⟩) (by show w.heap.size < _; omega)).trans b4
  have x5 : W5.cell? ⟨W2.heap.size + 1, 0, none⟩ = some (.int .i64 slot) := (hB.cell (p := ⟨W2.heap.size + 1, 0, none⟩) s4).trans x4
  have y5 : W5.cell? ⟨W2.heap.size + 1, 1, none⟩ = some (.int .i64 ring) := (hB.cell (p := ⟨W2.heap.size + 1, 1, none⟩) s4).trans y4
  have B5 := Lib.hid (B4.out.trans (hB.mono (by omega)) : Below w.heap.size w W5)
  clear hB x4 y4 b4 B4
  go_wp2_with fail
  refine (now_nil' _).mono ?_
  rintro e W6 ⟨rfl, rfl⟩
  go_wp2_with fail
  refine (now_bare' w.heap.size _ b5).mono ?_
  rintro e W6 ⟨rfl, rfl⟩
  go_wp2_with fail
  refine (new_made _).mono ?_
  rintro e W6 ⟨rfl, hC, hB⟩
  have C6 := Lib.hid hC
  have s6 : W5.heap.size + 35 ≤ W6.heap.size := hC.size
  have x6 : W6.cell? ⟨W2.heap.size + 1, 0, none⟩ = some (.int .i64 slot) := (hB.cell (p := ⟨W2.heap.size + 1, 0, none⟩) (by show W2.heap.size + 1 < _; omega)).trans x5
  have y6 : W6.cell? ⟨W2.heap.size + 1, 1, none⟩ = some (.int .i64 ring) := (hB.cell (p := ⟨W2.heap.size + 1, 1, none⟩) (by show W2.heap.size + 1 < _; omega)).trans y5
  have B6 := Lib.hid (B5.out.trans (hB.mono (by omega)) : Below w.heap.size w W6)
  clear hB hC x5 y5 b5 B5
  go_wp2_with fail
  refine (set_low W5.heap.size due 0 0 _ _ _ (.func 4) #[] #[] hd _ C6.out).mono ?_
  rintro e W7 ⟨rfl, hB⟩

  have s7 : W6.heap.size ≤ W7.heap.size := hB.size
  have C7 := Lib.hid (C6.out.kept (Kept.ofBelow hB (Nat.le_refl _) (fun _ => False)) fun _ _ => id)
  have x7 : W7.cell? ⟨W2.heap.size + 1, 0, none⟩ = some (.int .i64 slot) := (hB.cell (p := ⟨W2.heap.size + 1, 0, none⟩) (by show W2.heap.size + 1 < _; omega)).trans x6
  have y7 : W7.cell? ⟨W2.heap.size + 1, 1, none⟩ = some (.int .i64 ring) := (hB.cell (p := ⟨W2.heap.size + 1, 1, none⟩) (by show W2.heap.size + 1 < _; omega)).trans y6
  have B7 := Lib.hid (B6.out.trans (hB.mono (by omega)) : Below w.heap.size w W7)
  have t7 : W2.heap.size + 1 < W7.heap.size := by omega
  clear hB
  clear x6 y6 B6 C6
  go_wp2_with fail
  refine (set_none W5.heap.size 1 0 0 _ _ _ (by omega) (by omega) _ (C7.out.alloc _)).mono ?_
  rintro e W8 ⟨rfl, hB⟩
  have s8 : W7.heap.size < W8.heap.size := by have := hB.size; simp at this; omega
  have K8 := Kept.ofBelow hB (Nat.le_refl _) (fun _ => False)
  have C8 := Lib.hid ((C7.out.alloc _).kept K8 fun _ _ => id)
  have x8 : W8.cell? ⟨W2.heap.size + 1, 0, none⟩ = some (.int .i64 slot) := (hB.cell (p := ⟨W2.heap.size + 1, 0, none⟩) (by show W2.heap.size + 1 < _; simp; omega)).trans (by go_simp)
  have y8 : W8.cell? ⟨W2.heap.size + 1, 1, none⟩ = some (.int .i64 ring) := (hB.cell (p := ⟨W2.heap.size + 1, 1, none⟩) (by show W2.heap.size + 1 < _; simp; omega)).trans (by go_simp)
  have B8 := Lib.hid ((B7.out.alloc (by omega) _).trans (hB.mono (by simp; omega)) : Below w.heap.size w W8)
  have t8 : W2.heap.size + 1 < W8.heap.size := by omega
  clear hB K8 x7 y7 B7 C7
  go_wp2_with fail
  refine (stop_false W5.heap.size slot ring 0 0 _ _ _ (fun _ _ _ h2 => zero_not h2) _ (C8.out.alloc _)).mono ?_
  rintro e W9 ⟨rfl, hB⟩

  have s9 : w.heap.size ≤ W9.heap.size := by have := hB.size; simp at this; omega
  have B9 := Lib.hid ((B8.out.alloc (by omega) _).trans (hB.mono (by simp; omega)) : Below w.heap.size w W9)
  clear hB
  clear B8 C8 x8 y8
  go_wp2_with fail
  refine (forever_any _).mono ?_
  rintro e W10 ⟨rfl, hB⟩
  have s10 : W9.heap.size ≤ W10.heap.size := hB.size
  have B10 := Lib.hid (B9.out.trans (hB.mono (by omega)) : Below w.heap.size w W10)
  clear hB B9
  go_wp2_with fail
  refine (works_any _).mono ?_
  rintro e W11 ⟨rfl, hB⟩
  have B11 := Lib.hid (B10.out.trans (hB.mono (by omega)) : Below w.heap.size w W11)
  clear hB B10
  go_wp2_with fail
  go_ret
  exact ⟨rfl, B11.out⟩

set_option maxRecDepth 100000 in
set_option maxHeartbeats 1600000 in
theorem walk_high (slot ring due : Int) (hd : 4611686018427387904 < due) (w : World) : Calls Try.prog 3 #[.int .i64 slot, .int .i64 ring, .int .i64 due] w (TruePost w) := by
  have g1 : decide (0 ≤ due) = true := by simp; omega
  have g2 : decide (due ≤ 4611686018427387904) = false := by simp; omega
  have hz := run_neq_zero
  go_enter Try.func3, Try.ntmps3
  go_wp2_with fail
  refine (set_nil due (.func 4) #[] #[] _).mono ?_
  rintro e W1 ⟨rfl, hB⟩
  have s1 : w.heap.size < W1.heap.size := by have := hB.size; simp at this; omega
  have b1 : W1.cell? ⟨w.heap.size, 0, none⟩ = some (.pointer none) := (hB.cell (p := ⟨w.heap.size, 0, none⟩) (by simp)).trans (by simp)
  have B1 := Lib.hid (((Below.refl _ _).alloc (Nat.le_refl _) _).trans (hB.mono (by simp)) : Below w.heap.size w W1)
  clear hB
  go_wp2_with fail
  refine (set_bare w.heap.size due (.func 4) #[] #[] _ (by go_simp) (by simp; omega)).mono ?_
  rintro e W2 ⟨rfl, hB⟩
  have s2 : W1.heap.size < W2.heap.size := by have := hB.size; simp at this; omega
  have b2 : W2.cell? ⟨w.heap.size, 0, none⟩ = some (.pointer none) := (hB.cell (p := ⟨w.heap.size, 0, none⟩) (by simp; omega)).trans (by go_simp)
  have x2 : W2.cell? ⟨W1.heap.size, 0, none⟩ = some (.int .i64 0) := (hB.cell (p := ⟨W1.heap.size, 0, none⟩) (by simp)).trans (by simp)
  have y2 : W2.cell? ⟨W1.heap.size, 1, none⟩ = some (.int .i64 0) := (hB.cell (p := ⟨W1.heap.size, 1, none⟩) (by simp)).trans (by simp)
  have B2 := Lib.hid ((B1.out.alloc (by omega) _).trans (hB.mono (by simp; omega)) : Below w.heap.size w W2)
  have s2' : w.heap.size < W2.heap.size := by omega
  clear hB b1 B1
  go_wp2_with fail
  refine (adv_nil _ _).mono ?_
  rintro e W3 ⟨rfl, rfl⟩
  go_wp2_with fail
  refine (adv_bare _ w.heap.size _ (by go_simp)).mono ?_
  rintro e W3 ⟨rfl, rfl⟩
  go_wp2_with fail
  refine (stop_nil _ slot ring rfl _).mono ?_
  rintro e W4 ⟨rfl, hB⟩
  have s4 : W2.heap.size + 1 < W4.heap.size := by have := hB.size; simp at this; omega
  have b4 : W4.cell? ⟨w.heap.size, 0, none⟩ = some (.pointer none) := (hB.cell (p := ⟨w.heap.size, 0, none⟩) (by simp; omega)).trans (by go_simp)
  have x4 : W4.cell? ⟨W2.heap.size + 1, 0, none⟩ = some (.int .i64 slot) := (hB.cell (p := ⟨W2.heap.size + 1, 0, none⟩) (by simp)).trans (by go_simp)
  have y4 : W4.cell? ⟨W2.heap.size + 1, 1, none⟩ = some (.int .i64 ring) := (hB.cell (p := ⟨W2.heap.size + 1, 1, none⟩) (by simp)).trans (by go_simp)
  have B4 := Lib.hid (((B2.out.alloc (by omega) _).alloc (by simp; omega) _).trans (hB.mono (by simp; omega)) : Below w.heap.size w W4)
  clear hB x2 y2 b2 B2
  go_wp2_with fail
  refine (stop_bare w.heap.size _ slot ring rfl _ b4 (by omega)).mono ?_
  rintro e W5 ⟨rfl, hB⟩
  have s5 : W4.heap.size ≤ W5.heap.size := hB.size
  have b5 : W5.cell? ⟨w.heap.size, 0, none⟩ = some (.pointer none) := (hB.cell (p := ⟨w.heap.size, 0, none⟩) (by show w.heap.size < _; omega)).trans b4
  have x5 : W5.cell? ⟨W2.heap.size + 1, 0, none⟩ = some (.int .i64 slot) := (hB.cell (p := ⟨W2.heap.size + 1, 0, none⟩) s4).trans x4
  have y5 : W5.cell? ⟨W2.heap.size + 1, 1, none⟩ = some (.int .i64 ring) := (hB.cell (p := ⟨W2.heap.size + 1, 1, none⟩) s4).trans y4
  have B5 := Lib.hid (B4.out.trans (hB.mono (by omega)) : Below w.heap.size w W5)
  clear hB x4 y4 b4 B4
  go_wp2_with fail
  refine (now_nil' _).mono ?_
  rintro e W6 ⟨rfl, rfl⟩
  go_wp2_with fail
  refine (now_bare' w.heap.size _ b5).mono ?_
  rintro e W6 ⟨rfl, rfl⟩
  go_wp2_with fail
  refine (new_made _).mono ?_
  rintro e W6 ⟨rfl, hC, hB⟩
  have C6 := Lib.hid hC
  have s6 : W5.heap.size + 35 ≤ W6.heap.size := hC.size
  have x6 : W6.cell? ⟨W2.heap.size + 1, 0, none⟩ = some (.int .i64 slot) := (hB.cell (p := ⟨W2.heap.size + 1, 0, none⟩) (by show W2.heap.size + 1 < _; omega)).trans x5
  have y6 : W6.cell? ⟨W2.heap.size + 1, 1, none⟩ = some (.int .i64 ring) := (hB.cell (p := ⟨W2.heap.size + 1, 1, none⟩) (by show W2.heap.size + 1 < _; omega)).trans y5
  have B6 := Lib.hid (B5.out.trans (hB.mono (by omega)) : Below w.heap.size w W6)
  clear hB hC x5 y5 b5 B5
  go_wp2_with fail
  refine (set_high W5.heap.size due 0 0 _ _ _ (.func 4) #[] #[] hd _ C6.out).mono ?_
  rintro e W7 ⟨rfl, hB⟩

  have s7 : W6.heap.size ≤ W7.heap.size := hB.size
  have C7 := Lib.hid (C6.out.kept (Kept.ofBelow hB (Nat.le_refl _) (fun _ => False)) fun _ _ => id)
  have x7 : W7.cell? ⟨W2.heap.size + 1, 0, none⟩ = some (.int .i64 slot) := (hB.cell (p := ⟨W2.heap.size + 1, 0, none⟩) (by show W2.heap.size + 1 < _; omega)).trans x6
  have y7 : W7.cell? ⟨W2.heap.size + 1, 1, none⟩ = some (.int .i64 ring) := (hB.cell (p := ⟨W2.heap.size + 1, 1, none⟩) (by show W2.heap.size + 1 < _; omega)).trans y6
  have B7 := Lib.hid (B6.out.trans (hB.mono (by omega)) : Below w.heap.size w W7)
  have t7 : W2.heap.size + 1 < W7.heap.size := by omega
  clear hB
  clear x6 y6 B6 C6
  go_wp2_with fail
  refine (set_none W5.heap.size 1 0 0 _ _ _ (by omega) (by omega) _ (C7.out.alloc _)).mono ?_
  rintro e W8 ⟨rfl, hB⟩
  have s8 : W7.heap.size < W8.heap.size := by have := hB.size; simp at this; omega
  have K8 := Kept.ofBelow hB (Nat.le_refl _) (fun _ => False)
  have C8 := Lib.hid ((C7.out.alloc _).kept K8 fun _ _ => id)
  have x8 : W8.cell? ⟨W2.heap.size + 1, 0, none⟩ = some (.int .i64 slot) := (hB.cell (p := ⟨W2.heap.size + 1, 0, none⟩) (by show W2.heap.size + 1 < _; simp; omega)).trans (by go_simp)
  have y8 : W8.cell? ⟨W2.heap.size + 1, 1, none⟩ = some (.int .i64 ring) := (hB.cell (p := ⟨W2.heap.size + 1, 1, none⟩) (by show W2.heap.size + 1 < _; simp; omega)).trans (by go_simp)
  have B8 := Lib.hid ((B7.out.alloc (by omega) _).trans (hB.mono (by simp; omega)) : Below w.heap.size w W8)
  have t8 : W2.heap.size + 1 < W8.heap.size := by omega
  clear hB K8 x7 y7 B7 C7
  go_wp2_with fail
  refine (stop_false W5.heap.size slot ring 0 0 _ _ _ (fun _ _ _ h2 => zero_not h2) _ (C8.out.alloc _)).mono ?_
  rintro e W9 ⟨rfl, hB⟩

  have s9 : w.heap.size ≤ W9.heap.size := by have := hB.size; simp at this; omega
  have B9 := Lib.hid ((B8.out.alloc (by omega) _).trans (hB.mono (by simp; omega)) : Below w.heap.size w W9)
  clear hB
  clear B8 C8 x8 y8
  go_wp2_with fail
  refine (forever_any _).mono ?_
  rintro e W10 ⟨rfl, hB⟩
  have s10 : W9.heap.size ≤ W10.heap.size := hB.size
  have B10 := Lib.hid (B9.out.trans (hB.mono (by omega)) : Below w.heap.size w W10)
  clear hB B9
  go_wp2_with fail
  refine (works_any _).mono ?_
  rintro e W11 ⟨rfl, hB⟩
  have B11 := Lib.hid (B10.out.trans (hB.mono (by omega)) : Below w.heap.size w W11)
  clear hB B10
  go_wp2_with fail
  go_ret
  exact ⟨rfl, B11.out⟩

set_option maxRecDepth 100000 in
set_option maxHeartbeats 1600000 in
theorem walk_slot (slot ring due : Int) (hd0 : 0 ≤ due) (hd1 : due ≤ 4611686018427387904) (hs : ¬ slot = 0) (w : World) : Calls Try.prog 3 #[.int .i64 slot, .int .i64 ring, .int .i64 due] w (TruePost w) := by
  have g1 : decide (0 ≤ due) = true := by simp; omega
  have g2 : decide (due ≤ 4611686018427387904) = true := by simp; omega
  have g3 : (slot == 0) = false := by simpa using hs
  have hz := run_neq_zero
  go_enter Try.func3, Try.ntmps3
  go_wp2_with fail
  refine (set_nil due (.func 4) #[] #[] _).mono ?_
  rintro e W1 ⟨rfl, hB⟩
  have s1 : w.heap.size < W1.heap.size := by have := hB.size; simp at this; omega
  have b1 : W1.cell? ⟨w.heap.size, 0, none⟩ = some (.pointer none) := (hB.cell (p := ⟨w.heap.size, 0, none⟩) (by simp)).trans (by simp)
  have B1 := Lib.hid (((Below.refl _ _).alloc (Nat.le_refl _) _).trans (hB.mono (by simp)) : Below w.heap.size w W1)
  clear hB
  go_wp2_with fail
  refine (set_bare w.heap.size due (.func 4) #[] #[] _ (by go_simp) (by simp; omega)).mono ?_
  rintro e W2 ⟨rfl, hB⟩
  have s2 : W1.heap.size < W2.heap.size := by have := hB.size; simp at this; omega
  have b2 : W2.cell? ⟨w.heap.size, 0, none⟩ = some (.pointer none) := (hB.cell (p := ⟨w.heap.size, 0, none⟩) (by simp; omega)).trans (by go_simp)
  have x2 : W2.cell? ⟨W1.heap.size, 0, none⟩ = some (.int .i64 0) := (hB.cell (p := ⟨W1.heap.size, 0, none⟩) (by simp)).trans (by simp)
  have y2 : W2.cell? ⟨W1.heap.size, 1, none⟩ = some (.int .i64 0) := (hB.cell (p := ⟨W1.heap.size, 1, none⟩) (by simp)).trans (by simp)
  have B2 := Lib.hid ((B1.out.alloc (by omega) _).trans (hB.mono (by simp; omega)) : Below w.heap.size w W2)
  have s2' : w.heap.size < W2.heap.size := by omega
  clear hB b1 B1
  go_wp2_with fail
  refine (adv_nil _ _).mono ?_
  rintro e W3 ⟨rfl, rfl⟩
  go_wp2_with fail
  refine (adv_bare _ w.heap.size _ (by go_simp)).mono ?_
  rintro e W3 ⟨rfl, rfl⟩
  go_wp2_with fail
  refine (stop_nil _ slot ring rfl _).mono ?_
  rintro e W4 ⟨rfl, hB⟩
  have s4 : W2.heap.size + 1 < W4.heap.size := by have := hB.size; simp at this; omega
  have b4 : W4.cell? ⟨w.heap.size, 0, none⟩ = some (.pointer none) := (hB.cell (p := ⟨w.heap.size, 0, none⟩) (by simp; omega)).trans (by go_simp)
  have x4 : W4.cell? ⟨W2.heap.size + 1, 0, none⟩ = some (.int .i64 slot) := (hB.cell (p := ⟨W2.heap.size + 1, 0, none⟩) (by simp)).trans (by go_simp)
  have y4 : W4.cell? ⟨W2.heap.size + 1, 1, none⟩ = some (.int .i64 ring) := (hB.cell (p := ⟨W2.heap.size + 1, 1, none⟩) (by simp)).trans (by go_simp)
  have B4 := Lib.hid (((B2.out.alloc (by omega) _).alloc (by simp; omega) _).trans (hB.mono (by simp; omega)) : Below w.heap.size w W4)
  clear hB x2 y2 b2 B2
  go_wp2_with fail
  refine (stop_bare w.heap.size _ slot ring rfl _ b4 (by omega)).mono ?_
  rintro e W5 ⟨rfl, hB⟩
  have s5 : W4.heap.size ≤ W5.heap.size := hB.size
  have b5 : W5.cell? ⟨w.heap.size, 0, none⟩ = some (.pointer none) := (hB.cell (p := ⟨w.heap.size, 0, none⟩) (by show w.heap.size < _; omega)).trans b4
  have x5 : W5.cell? ⟨W2.heap.size + 1, 0, none⟩ = some (.int .i64 slot) := (hB.cell (p := ⟨W2.heap.size + 1, 0, none⟩) s4).trans x4
  have y5 : W5.cell? ⟨W2.heap.size + 1, 1, none⟩ = some (.int .i64 ring) := (hB.cell (p := ⟨W2.heap.size + 1, 1, none⟩) s4).trans y4
  have B5 := Lib.hid (B4.out.trans (hB.mono (by omega)) : Below w.heap.size w W5)
  clear hB x4 y4 b4 B4
  go_wp2_with fail
  refine (now_nil' _).mono ?_
  rintro e W6 ⟨rfl, rfl⟩
  go_wp2_with fail
  refine (now_bare' w.heap.size _ b5).mono ?_
  rintro e W6 ⟨rfl, rfl⟩
  go_wp2_with fail
  refine (new_made _).mono ?_
  rintro e W6 ⟨rfl, hC, hB⟩
  have C6 := Lib.hid hC
  have s6 : W5.heap.size + 35 ≤ W6.heap.size := hC.size
  have x6 : W6.cell? ⟨W2.heap.size + 1, 0, none⟩ = some (.int .i64 slot) := (hB.cell (p := ⟨W2.heap.size + 1, 0, none⟩) (by show W2.heap.size + 1 < _; omega)).trans x5
  have y6 : W6.cell? ⟨W2.heap.size + 1, 1, none⟩ = some (.int .i64 ring) := (hB.cell (p := ⟨W2.heap.size + 1, 1, none⟩) (by show W2.heap.size + 1 < _; omega)).trans y5
  have B6 := Lib.hid (B5.out.trans (hB.mono (by omega)) : Below w.heap.size w W6)
  clear hB hC x5 y5 b5 B5
  go_wp2_with fail
  refine (set_to W5.heap.size 0 0 2 due 0 0 z0 z0 f0 (.func 4) #[] #[] rfl rfl hd0 hd1 (by omega) (fun i hi => by omega) (by decide) (by decide) (by decide) _ C6.out).mono ?_
  rintro e W7 ⟨rfl, hC, hK⟩

  have s7 : W6.heap.size ≤ W7.heap.size := hK.size
  have C7 := Lib.hid hC
  have ho : ¬ Own W5.heap.size (W2.heap.size + 1) := fun h => by have := h.1; omega
  have x7 : W7.cell? ⟨W2.heap.size + 1, 0, none⟩ = some (.int .i64 slot) := (hK.cell (p := ⟨W2.heap.size + 1, 0, none⟩) (by show W2.heap.size + 1 < _; omega) ho).trans x6
  have y7 : W7.cell? ⟨W2.heap.size + 1, 1, none⟩ = some (.int .i64 ring) := (hK.cell (p := ⟨W2.heap.size + 1, 1, none⟩) (by show W2.heap.size + 1 < _; omega) ho).trans y6
  have B7 := Lib.hid (Kept.grow B6.out hK (by omega) (own_ge (by omega)) : Below w.heap.size w W7)
  have t7 : W2.heap.size + 1 < W7.heap.size := by omega
  clear hC hK ho
  clear x6 y6 B6 C6
  go_wp2_with fail
  refine (set_none W5.heap.size 1 0 0 _ _ _ (by omega) (by omega) _ (C7.out.alloc _)).mono ?_
  rintro e W8 ⟨rfl, hB⟩
  have s8 : W7.heap.size < W8.heap.size := by have := hB.size; simp at this; omega
  have K8 := Kept.ofBelow hB (Nat.le_refl _) (fun _ => False)
  have C8 := Lib.hid ((C7.out.alloc _).kept K8 fun _ _ => id)
  have x8 : W8.cell? ⟨W2.heap.size + 1, 0, none⟩ = some (.int .i64 slot) := (hB.cell (p := ⟨W2.heap.size + 1, 0, none⟩) (by show W2.heap.size + 1 < _; simp; omega)).trans (by go_simp)
  have y8 : W8.cell? ⟨W2.heap.size + 1, 1, none⟩ = some (.int .i64 ring) := (hB.cell (p := ⟨W2.heap.size + 1, 1, none⟩) (by show W2.heap.size + 1 < _; simp; omega)).trans (by go_simp)
  have B8 := Lib.hid ((B7.out.alloc (by omega) _).trans (hB.mono (by simp; omega)) : Below w.heap.size w W8)
  have t8 : W2.heap.size + 1 < W8.heap.size := by omega
  clear hB K8 x7 y7 B7 C7
  go_wp2_with fail
  refine (stop_false W5.heap.size slot ring 0 0 _ _ _ (fun j _ h1 h2 h3 => zero_not h2 ((put_other z0 0 j 2 (fun h => hs (by rw [h1, h]; rfl))).symm.trans h3)) _ (C8.out.alloc _)).mono ?_
  rintro e W9 ⟨rfl, hB⟩

  have s9 : w.heap.size ≤ W9.heap.size := by have := hB.size; simp at this; omega
  have B9 := Lib.hid ((B8.out.alloc (by omega) _).trans (hB.mono (by simp; omega)) : Below w.heap.size w W9)
  clear hB
  clear B8 C8 x8 y8
  go_wp2_with fail
  refine (forever_any _).mono ?_
  rintro e W10 ⟨rfl, hB⟩
  have s10 : W9.heap.size ≤ W10.heap.size := hB.size
  have B10 := Lib.hid (B9.out.trans (hB.mono (by omega)) : Below w.heap.size w W10)
  clear hB B9
  go_wp2_with fail
  refine (works_any _).mono ?_
  rintro e W11 ⟨rfl, hB⟩
  have B11 := Lib.hid (B10.out.trans (hB.mono (by omega)) : Below w.heap.size w W11)
  clear hB B10
  go_wp2_with fail
  go_ret
  exact ⟨rfl, B11.out⟩

set_option maxRecDepth 100000 in
set_option maxHeartbeats 1600000 in
theorem walk_ring (ring due : Int) (hd0 : 0 ≤ due) (hd1 : due ≤ 4611686018427387904) (hr : ¬ ring = 2) (w : World) : Calls Try.prog 3 #[.int .i64 0, .int .i64 ring, .int .i64 due] w (TruePost w) := by
  have g1 : decide (0 ≤ due) = true := by simp; omega
  have g2 : decide (due ≤ 4611686018427387904) = true := by simp; omega
  have g3 : (ring == 2) = false := by simpa using hr
  have hz := run_neq_zero
  go_enter Try.func3, Try.ntmps3
  go_wp2_with fail
  refine (set_nil due (.func 4) #[] #[] _).mono ?_
  rintro e W1 ⟨rfl, hB⟩
  have s1 : w.heap.size < W1.heap.size := by have := hB.size; simp at this; omega
  have b1 : W1.cell? ⟨w.heap.size, 0, none⟩ = some (.pointer none) := (hB.cell (p := ⟨w.heap.size, 0, none⟩) (by simp)).trans (by simp)
  have B1 := Lib.hid (((Below.refl _ _).alloc (Nat.le_refl _) _).trans (hB.mono (by simp)) : Below w.heap.size w W1)
  clear hB
  go_wp2_with fail
  refine (set_bare w.heap.size due (.func 4) #[] #[] _ (by go_simp) (by simp; omega)).mono ?_
  rintro e W2 ⟨rfl, hB⟩
  have s2 : W1.heap.size < W2.heap.size := by have := hB.size; simp at this; omega
  have b2 : W2.cell? ⟨w.heap.size, 0, none⟩ = some (.pointer none) := (hB.cell (p := ⟨w.heap.size, 0, none⟩) (by simp; omega)).trans (by go_simp)
  have x2 : W2.cell? ⟨W1.heap.size, 0, none⟩ = some (.int .i64 0) := (hB.cell (p := ⟨W1.heap.size, 0, none⟩) (by simp)).trans (by simp)
  have y2 : W2.cell? ⟨W1.heap.size, 1, none⟩ = some (.int .i64 0) := (hB.cell (p := ⟨W1.heap.size, 1, none⟩) (by simp)).trans (by simp)
  have B2 := Lib.hid ((B1.out.alloc (by omega) _).trans (hB.mono (by simp; omega)) : Below w.heap.size w W2)
  have s2' : w.heap.size < W2.heap.size := by omega
  clear hB b1 B1
  go_wp2_with fail
  refine (adv_nil _ _).mono ?_
  rintro e W3 ⟨rfl, rfl⟩
  go_wp2_with fail
  refine (adv_bare _ w.heap.size _ (by go_simp)).mono ?_
  rintro e W3 ⟨rfl, rfl⟩
  go_wp2_with fail
  refine (stop_nil _ 0 ring rfl _).mono ?_
  rintro e W4 ⟨rfl, hB⟩
  have s4 : W2.heap.size + 1 < W4.heap.size := by have := hB.size; simp at this; omega
  have b4 : W4.cell? ⟨w.heap.size, 0, none⟩ = some (.pointer none) := (hB.cell (p := ⟨w.heap.size, 0, none⟩) (by simp; omega)).trans (by go_simp)
  have x4 : W4.cell? ⟨W2.heap.size + 1, 0, none⟩ = some (.int .i64 0) := (hB.cell (p := ⟨W2.heap.size + 1, 0, none⟩) (by simp)).trans (by go_simp)
  have y4 : W4.cell? ⟨W2.heap.size + 1, 1, none⟩ = some (.int .i64 ring) := (hB.cell (p := ⟨W2.heap.size + 1, 1, none⟩) (by simp)).trans (by go_simp)
  have B4 := Lib.hid (((B2.out.alloc (by omega) _).alloc (by simp; omega) _).trans (hB.mono (by simp; omega)) : Below w.heap.size w W4)
  clear hB x2 y2 b2 B2
  go_wp2_with fail
  refine (stop_bare w.heap.size _ 0 ring rfl _ b4 (by omega)).mono ?_
  rintro e W5 ⟨rfl, hB⟩
  have s5 : W4.heap.size ≤ W5.heap.size := hB.size
  have b5 : W5.cell? ⟨w.heap.size, 0, none⟩ = some (.pointer none) := (hB.cell (p := ⟨w.heap.size, 0, none⟩) (by show w.heap.size < _; omega)).trans b4
  have x5 : W5.cell? ⟨W2.heap.size + 1, 0, none⟩ = some (.int .i64 0) := (hB.cell (p := ⟨W2.heap.size + 1, 0, none⟩) s4).trans x4
  have y5 : W5.cell? ⟨W2.heap.size + 1, 1, none⟩ = some (.int .i64 ring) := (hB.cell (p := ⟨W2.heap.size + 1, 1, none⟩) s4).trans y4
  have B5 := Lib.hid (B4.out.trans (hB.mono (by omega)) : Below w.heap.size w W5)
  clear hB x4 y4 b4 B4
  go_wp2_with fail
  refine (now_nil' _).mono ?_
  rintro e W6 ⟨rfl, rfl⟩
  go_wp2_with fail
  refine (now_bare' w.heap.size _ b5).mono ?_
  rintro e W6 ⟨rfl, rfl⟩
  go_wp2_with fail
  refine (new_made _).mono ?_
  rintro e W6 ⟨rfl, hC, hB⟩
  have C6 := Lib.hid hC
  have s6 : W5.heap.size + 35 ≤ W6.heap.size := hC.size
  have x6 : W6.cell? ⟨W2.heap.size + 1, 0, none⟩ = some (.int .i64 0) := (hB.cell (p := ⟨W2.heap.size + 1, 0, none⟩) (by show W2.heap.size + 1 < _; omega)).trans x5
  have y6 : W6.cell? ⟨W2.heap.size + 1, 1, none⟩ = some (.int .i64 ring) := (hB.cell (p := ⟨W2.heap.size + 1, 1, none⟩) (by show W2.heap.size + 1 < _; omega)).trans y5
  have B6 := Lib.hid (B5.out.trans (hB.mono (by omega)) : Below w.heap.size w W6)
  clear hB hC x5 y5 b5 B5
  go_wp2_with fail
  refine (set_to W5.heap.size 0 0 2 due 0 0 z0 z0 f0 (.func 4) #[] #[] rfl rfl hd0 hd1 (by omega) (fun i hi => by omega) (by decide) (by decide) (by decide) _ C6.out).mono ?_
  rintro e W7 ⟨rfl, hC, hK⟩

  have s7 : W6.heap.size ≤ W7.heap.size := hK.size
  have C7 := Lib.hid hC
  have ho : ¬ Own W5.heap.size (W2.heap.size + 1) := fun h => by have := h.1; omega
  have x7 : W7.cell? ⟨W2.heap.size + 1, 0, none⟩ = some (.int .i64 0) := (hK.cell (p := ⟨W2.heap.size + 1, 0, none⟩) (by show W2.heap.size + 1 < _; omega) ho).trans x6
  have y7 : W7.cell? ⟨W2.heap.size + 1, 1, none⟩ = some (.int .i64 ring) := (hK.cell (p := ⟨W2.heap.size + 1, 1, none⟩) (by show W2.heap.size + 1 < _; omega) ho).trans y6
  have B7 := Lib.hid (Kept.grow B6.out hK (by omega) (own_ge (by omega)) : Below w.heap.size w W7)
  have t7 : W2.heap.size + 1 < W7.heap.size := by omega
  clear hC hK ho
  clear x6 y6 B6 C6
  go_wp2_with fail
  refine (set_none W5.heap.size 1 0 0 _ _ _ (by omega) (by omega) _ (C7.out.alloc _)).mono ?_
  rintro e W8 ⟨rfl, hB⟩
  have s8 : W7.heap.size < W8.heap.size := by have := hB.size; simp at this; omega
  have K8 := Kept.ofBelow hB (Nat.le_refl _) (fun _ => False)
  have C8 := Lib.hid ((C7.out.alloc _).kept K8 fun _ _ => id)
  have x8 : W8.cell? ⟨W2.heap.size + 1, 0, none⟩ = some (.int .i64 0) := (hB.cell (p := ⟨W2.heap.size + 1, 0, none⟩) (by show W2.heap.size + 1 < _; simp; omega)).trans (by go_simp)
  have y8 : W8.cell? ⟨W2.heap.size + 1, 1, none⟩ = some (.int .i64 ring) := (hB.cell (p := ⟨W2.heap.size + 1, 1, none⟩) (by show W2.heap.size + 1 < _; simp; omega)).trans (by go_simp)
  have B8 := Lib.hid ((B7.out.alloc (by omega) _).trans (hB.mono (by simp; omega)) : Below w.heap.size w W8)
  have t8 : W2.heap.size + 1 < W8.heap.size := by omega
  clear hB K8 x7 y7 B7 C7
  go_wp2_with fail
  refine (stop_false W5.heap.size 0 ring 0 0 _ _ _ (fun j _ h1 _ => ring_not h1 hr) _ (C8.out.alloc _)).mono ?_
  rintro e W9 ⟨rfl, hB⟩

  have s9 : w.heap.size ≤ W9.heap.size := by have := hB.size; simp at this; omega
  have B9 := Lib.hid ((B8.out.alloc (by omega) _).trans (hB.mono (by simp; omega)) : Below w.heap.size w W9)
  clear hB
  clear B8 C8 x8 y8
  go_wp2_with fail
  refine (forever_any _).mono ?_
  rintro e W10 ⟨rfl, hB⟩
  have s10 : W9.heap.size ≤ W10.heap.size := hB.size
  have B10 := Lib.hid (B9.out.trans (hB.mono (by omega)) : Below w.heap.size w W10)
  clear hB B9
  go_wp2_with fail
  refine (works_any _).mono ?_
  rintro e W11 ⟨rfl, hB⟩
  have B11 := Lib.hid (B10.out.trans (hB.mono (by omega)) : Below w.heap.size w W11)
  clear hB B10
  go_wp2_with fail
  go_ret
  exact ⟨rfl, B11.out⟩

set_option maxRecDepth 100000 in
set_option maxHeartbeats 1600000 in
theorem walk_hit (due : Int) (hd0 : 0 ≤ due) (hd1 : due ≤ 4611686018427387904)  (w : World) : Calls Try.prog 3 #[.int .i64 0, .int .i64 2, .int .i64 due] w (TruePost w) := by
  have g1 : decide (0 ≤ due) = true := by simp; omega
  have g2 : decide (due ≤ 4611686018427387904) = true := by simp; omega
  have hz := run_neq_zero
  go_enter Try.func3, Try.ntmps3
  go_wp2_with fail
  refine (set_nil due (.func 4) #[] #[] _).mono ?_
  rintro e W1 ⟨rfl, hB⟩
  have s1 : w.heap.size < W1.heap.size := by have := hB.size; simp at this; omega
  have b1 : W1.cell? ⟨w.heap.size, 0, none⟩ = some (.pointer none) := (hB.cell (p := ⟨w.heap.size, 0, none⟩) (by simp)).trans (by simp)
  have B1 := Lib.hid (((Below.refl _ _).alloc (Nat.le_refl _) _).trans (hB.mono (by simp)) : Below w.heap.size w W1)
  clear hB
  go_wp2_with fail
  refine (set_bare w.heap.size due (.func 4) #[] #[] _ (by go_simp) (by simp; omega)).mono ?_
  rintro e W2 ⟨rfl, hB⟩
  have s2 : W1.heap.size < W2.heap.size := by have := hB.size; simp at this; omega
  have b2 : W2.cell? ⟨w.heap.size, 0, none⟩ = some (.pointer none) := (hB.cell (p := ⟨w.heap.size, 0, none⟩) (by simp; omega)).trans (by go_simp)
  have x2 : W2.cell? ⟨W1.heap.size, 0, none⟩ = some (.int .i64 0) := (hB.cell (p := ⟨W1.heap.size, 0, none⟩) (by simp)).trans (by simp)
  have y2 : W2.cell? ⟨W1.heap.size, 1, none⟩ = some (.int .i64 0) := (hB.cell (p := ⟨W1.heap.size, 1, none⟩) (by simp)).trans (by simp)
  have B2 := Lib.hid ((B1.out.alloc (by omega) _).trans (hB.mono (by simp; omega)) : Below w.heap.size w W2)
  have s2' : w.heap.size < W2.heap.size := by omega
  clear hB b1 B1
  go_wp2_with fail
  refine (adv_nil _ _).mono ?_
  rintro e W3 ⟨rfl, rfl⟩
  go_wp2_with fail
  refine (adv_bare _ w.heap.size _ (by go_simp)).mono ?_
  rintro e W3 ⟨rfl, rfl⟩
  go_wp2_with fail
  refine (stop_nil _ 0 2 rfl _).mono ?_
  rintro e W4 ⟨rfl, hB⟩
  have s4 : W2.heap.size + 1 < W4.heap.size := by have := hB.size; simp at this; omega
  have b4 : W4.cell? ⟨w.heap.size, 0, none⟩ = some (.pointer none) := (hB.cell (p := ⟨w.heap.size, 0, none⟩) (by simp; omega)).trans (by go_simp)
  have x4 : W4.cell? ⟨W2.heap.size + 1, 0, none⟩ = some (.int .i64 0) := (hB.cell (p := ⟨W2.heap.size + 1, 0, none⟩) (by simp)).trans (by go_simp)
  have y4 : W4.cell? ⟨W2.heap.size + 1, 1, none⟩ = some (.int .i64 2) := (hB.cell (p := ⟨W2.heap.size + 1, 1, none⟩) (by simp)).trans (by go_simp)
  have B4 := Lib.hid (((B2.out.alloc (by omega) _).alloc (by simp; omega) _).trans (hB.mono (by simp; omega)) : Below w.heap.size w W4)
  clear hB x2 y2 b2 B2
  go_wp2_with fail
  refine (stop_bare w.heap.size _ 0 2 rfl _ b4 (by omega)).mono ?_
  rintro e W5 ⟨rfl, hB⟩
  have s5 : W4.heap.size ≤ W5.heap.size := hB.size
  have b5 : W5.cell? ⟨w.heap.size, 0, none⟩ = some (.pointer none) := (hB.cell (p := ⟨w.heap.size, 0, none⟩) (by show w.heap.size < _; omega)).trans b4
  have x5 : W5.cell? ⟨W2.heap.size + 1, 0, none⟩ = some (.int .i64 0) := (hB.cell (p := ⟨W2.heap.size + 1, 0, none⟩) s4).trans x4
  have y5 : W5.cell? ⟨W2.heap.size + 1, 1, none⟩ = some (.int .i64 2) := (hB.cell (p := ⟨W2.heap.size + 1, 1, none⟩) s4).trans y4
  have B5 := Lib.hid (B4.out.trans (hB.mono (by omega)) : Below w.heap.size w W5)
  clear hB x4 y4 b4 B4
  go_wp2_with fail
  refine (now_nil' _).mono ?_
  rintro e W6 ⟨rfl, rfl⟩
  go_wp2_with fail
  refine (now_bare' w.heap.size _ b5).mono ?_
  rintro e W6 ⟨rfl, rfl⟩
  go_wp2_with fail
  refine (new_made _).mono ?_
  rintro e W6 ⟨rfl, hC, hB⟩
  have C6 := Lib.hid hC
  have s6 : W5.heap.size + 35 ≤ W6.heap.size := hC.size
  have x6 : W6.cell? ⟨W2.heap.size + 1, 0, none⟩ = some (.int .i64 0) := (hB.cell (p := ⟨W2.heap.size + 1, 0, none⟩) (by show W2.heap.size + 1 < _; omega)).trans x5
  have y6 : W6.cell? ⟨W2.heap.size + 1, 1, none⟩ = some (.int .i64 2) := (hB.cell (p := ⟨W2.heap.size + 1, 1, none⟩) (by show W2.heap.size + 1 < _; omega)).trans y5
  have B6 := Lib.hid (B5.out.trans (hB.mono (by omega)) : Below w.heap.size w W6)
  clear hB hC x5 y5 b5 B5
  go_wp2_with fail
  refine (set_to W5.heap.size 0 0 2 due 0 0 z0 z0 f0 (.func 4) #[] #[] rfl rfl hd0 hd1 (by omega) (fun i hi => by omega) (by decide) (by decide) (by decide) _ C6.out).mono ?_
  rintro e W7 ⟨rfl, hC, hK⟩

  have s7 : W6.heap.size ≤ W7.heap.size := hK.size
  have C7 := Lib.hid hC
  have ho : ¬ Own W5.heap.size (W2.heap.size + 1) := fun h => by have := h.1; omega
  have x7 : W7.cell? ⟨W2.heap.size + 1, 0, none⟩ = some (.int .i64 0) := (hK.cell (p := ⟨W2.heap.size + 1, 0, none⟩) (by show W2.heap.size + 1 < _; omega) ho).trans x6
  have y7 : W7.cell? ⟨W2.heap.size + 1, 1, none⟩ = some (.int .i64 2) := (hK.cell (p := ⟨W2.heap.size + 1, 1, none⟩) (by show W2.heap.size + 1 < _; omega) ho).trans y6
  have B7 := Lib.hid (Kept.grow B6.out hK (by omega) (own_ge (by omega)) : Below w.heap.size w W7)
  have t7 : W2.heap.size + 1 < W7.heap.size := by omega
  clear hC hK ho
  clear x6 y6 B6 C6
  go_wp2_with fail
  refine (set_none W5.heap.size 1 0 0 _ _ _ (by omega) (by omega) _ (C7.out.alloc _)).mono ?_
  rintro e W8 ⟨rfl, hB⟩
  have s8 : W7.heap.size < W8.heap.size := by have := hB.size; simp at this; omega
  have K8 := Kept.ofBelow hB (Nat.le_refl _) (fun _ => False)
  have C8 := Lib.hid ((C7.out.alloc _).kept K8 fun _ _ => id)
  have x8 : W8.cell? ⟨W2.heap.size + 1, 0, none⟩ = some (.int .i64 0) := (hB.cell (p := ⟨W2.heap.size + 1, 0, none⟩) (by show W2.heap.size + 1 < _; simp; omega)).trans (by go_simp)
  have y8 : W8.cell? ⟨W2.heap.size + 1, 1, none⟩ = some (.int .i64 2) := (hB.cell (p := ⟨W2.heap.size + 1, 1, none⟩) (by show W2.heap.size + 1 < _; simp; omega)).trans (by go_simp)
  have B8 := Lib.hid ((B7.out.alloc (by omega) _).trans (hB.mono (by simp; omega)) : Below w.heap.size w W8)
  have t8 : W2.heap.size + 1 < W8.heap.size := by omega
  clear hB K8 x7 y7 B7 C7
  go_wp2_with fail
  refine (stop_to W5.heap.size 0 0 2 4 0 0 (put z0 0 2) _ _ rfl (by decide) (by decide) (by omega) (by decide) (by decide) (by decide) _ (C8.out.alloc _)).mono ?_
  rintro e W9 ⟨rfl, hC, hK⟩

  have s9 : w.heap.size ≤ W9.heap.size := by have := hK.size; simp at this; omega
  have B9 := Lib.hid (Kept.grow (B8.out.alloc (by omega) _) hK (by simp; omega) (own_ge (by omega)) : Below w.heap.size w W9)
  clear hC hK
  clear B8 C8 x8 y8
  go_wp2_with fail
  refine (forever_any _).mono ?_
  rintro e W10 ⟨rfl, hB⟩
  have s10 : W9.heap.size ≤ W10.heap.size := hB.size
  have B10 := Lib.hid (B9.out.trans (hB.mono (by omega)) : Below w.heap.size w W10)
  clear hB B9
  go_wp2_with fail
  refine (works_any _).mono ?_
  rintro e W11 ⟨rfl, hB⟩
  have B11 := Lib.hid (B10.out.trans (hB.mono (by omega)) : Below w.heap.size w W11)
  clear hB B10
  go_wp2_with fail
  go_ret
  exact ⟨rfl, B11.out⟩

theorem walk_clockNone (slot ring due : Int) (_ : (Lit.int .i64 slot).wf = true) (_ : (Lit.int .i64 ring).wf = true) (_ : (Lit.int .i64 due).wf = true) (w : World) :
    Calls Try.prog 3 #[.int .i64 slot, .int .i64 ring, .int .i64 due] w fun e w' => e = .returned (.bool true) ∧ Below w.heap.size w w' := by
  by_cases h0 : due < 0
  · exact walk_low slot ring due h0 w
  by_cases h1 : 4611686018427387904 < due
  · exact walk_high slot ring due h1 w
  by_cases h2 : slot = 0
  · by_cases h3 : ring = 2
    · subst h2 h3; exact walk_hit due (by omega) (by omega) w
    · subst h2; exact walk_ring ring due (by omega) (by omega) h3 w
  · exact walk_slot slot ring due (by omega) (by omega) h2 w

end Go.Proofs.Ytpdchhdelndjiaa
