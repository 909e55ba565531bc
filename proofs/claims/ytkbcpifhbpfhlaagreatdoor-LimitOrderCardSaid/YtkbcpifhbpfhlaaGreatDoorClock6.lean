/-
  Package clock, a nil thread: Stop of a clock that New made.
-/
import Derived.Test.YtkbcpifhbpfhlaaGreatDoorClock5
import Derived.IntWalk
namespace Go.Proofs.YtkbcpifhbpfhlaaGreatDoor
open Go.RowKit

theorem stop_below (n : Nat) (a b now busy : Int) (s d : Nat → Int) (f : Nat → Value) (ha : a < 0) (w : World) (C : Clk w n now busy s d f) :
    Calls Tryz.prog 51 #[.pointer (some ⟨n + 2, 0, none⟩), .pointer none, .agg #[.int .i64 a, .int .i64 b]] w fun e w' => e = .returned (.bool false) ∧ Below w.heap.size w w' := by
  have p0 := C.p0
  have lt : n + 2 < w.heap.size := by have := C.size; omega
  clear C
  go_enter Tryz.func51, Tryz.ntmps51
  go_wp2_with (go_at_call 31; refine (cnone_made (n + 2) ⟨n, 0, none⟩ _ (by go_simp)).mono ?_; rintro e w' ⟨rfl, rfl⟩)
  go_ret
  exact ⟨rfl, (Below.refl _ _).alloc (Nat.le_refl _) _⟩

theorem stop_above (n : Nat) (a b now busy : Int) (s d : Nat → Int) (f : Nat → Value) (ha : 16 ≤ a) (w : World) (C : Clk w n now busy s d f) :
    Calls Tryz.prog 51 #[.pointer (some ⟨n + 2, 0, none⟩), .pointer none, .agg #[.int .i64 a, .int .i64 b]] w fun e w' => e = .returned (.bool false) ∧ Below w.heap.size w w' := by
  have p0 := C.p0
  have lt : n + 2 < w.heap.size := by have := C.size; omega
  clear C
  have h1 : ¬ a < 0 := by omega
  go_enter Tryz.func51, Tryz.ntmps51
  go_wp2_with (go_at_call 31; refine (cnone_made (n + 2) ⟨n, 0, none⟩ _ (by go_simp)).mono ?_; rintro e w' ⟨rfl, rfl⟩)
  go_ret
  exact ⟨rfl, (Below.refl _ _).alloc (Nat.le_refl _) _⟩

set_option maxHeartbeats 400000 in
theorem stop_kind (n j : Nat) (b now busy : Int) (s d : Nat → Int) (f : Nat → Value) (hj : j < 16) (hb : ¬ b.tmod 4 = 2) (w : World) (C : Clk w n now busy s d f) :
    Calls Tryz.prog 51 #[.pointer (some ⟨n + 2, 0, none⟩), .pointer none, .agg #[.int .i64 j, .int .i64 b]] w fun e w' => e = .returned (.bool false) ∧ Below w.heap.size w w' := by
  have p0 := C.p0
  have lt : n + 2 < w.heap.size := by have := C.size; omega
  clear C
  have g1 : decide ((j : Int) < 0) = false := by simp
  have g2 : decide (16 ≤ (j : Int)) = false := by simp; omega
  have g3 : (b.tmod 4 != 2) = true := by simp [hb]
  go_enter Tryz.func51, Tryz.ntmps51
  go_wp2_with fail
  refine (cnone_made (n + 2) ⟨n, 0, none⟩ _ (by go_simp)).mono ?_
  rintro e w' ⟨rfl, rfl⟩
  go_wp2_with fail
  refine (kind_any _ _).mono ?_
  rintro e w' ⟨rfl, rfl⟩
  go_wp2_with fail
  go_ret
  exact ⟨rfl, (Below.refl _ _).alloc (Nat.le_refl _) _⟩

set_option maxRecDepth 100000 in
set_option maxHeartbeats 800000 in
theorem stop_miss (n j : Nat) (b now busy : Int) (s d : Nat → Int) (f : Nat → Value) (hj : j < 16) (hb : b.tmod 4 = 2) (hne : ¬ s j = b) (w : World) (C : Clk w n now busy s d f) :
    Calls Tryz.prog 51 #[.pointer (some ⟨n + 2, 0, none⟩), .pointer none, .agg #[.int .i64 j, .int .i64 b]] w fun e w' => e = .returned (.bool false) ∧ Below w.heap.size w w' := by
  have p0 := C.p0
  have lt : n + 2 < w.heap.size := by have := C.size; omega
  have ps : w.cell? ⟨n + 2, 2 + j * 3, none⟩ = some (.pointer (some ⟨n + 3 + 2 * j, 0, none⟩)) := by rw [Nat.mul_comm j 3]; exact C.ps j hj
  have st := C.st j hj
  have c0 := st.c0
  have c1 := st.c1
  have fr := st.fr
  have l1 := st.lt
  clear st C
  have g1 : decide ((j : Int) < 0) = false := by simp
  have g2 : decide (16 ≤ (j : Int)) = false := by simp; omega
  go_enter Tryz.func51, Tryz.ntmps51
  go_wp2_with fail
  refine (cnone_made (n + 2) ⟨n, 0, none⟩ _ (by go_simp)).mono ?_
  rintro e w' ⟨rfl, rfl⟩
  go_wp2_with fail
  refine (kind_set hb _).mono ?_
  rintro e w' ⟨rfl, rfl⟩
  go_wp2_with fail
  have Hne := Lib.hid hne
  clear hne
  have f1 : ((w.alloc (.cells #[.int .i64 j, .int .i64 b] 112)).drew).cell? ⟨w.heap.size, 0, none⟩ = some (.int .i64 j) := by go_simp
  have f2 : ((w.alloc (.cells #[.int .i64 j, .int .i64 b] 112)).drew).cell? ⟨w.heap.size, 1, none⟩ = some (.int .i64 b) := by go_simp
  have f3 : ((w.alloc (.cells #[.int .i64 j, .int .i64 b] 112)).drew).cell? ⟨n + 2, 2 + j * 3, none⟩ = some (.pointer (some ⟨n + 3 + 2 * j, 0, none⟩)) := by go_simp
  have f4 : ((w.alloc (.cells #[.int .i64 j, .int .i64 b] 112)).drew).cell? ⟨n + 3 + 2 * j, 0, none⟩ = some (.int .i64 (s j)) := by go_simp
  have f5 : ((w.alloc (.cells #[.int .i64 j, .int .i64 b] 112)).drew).cell? ⟨n + 3 + 2 * j, 1, none⟩ = some (.bool true) := by go_simp
  have f6 : ((w.alloc (.cells #[.int .i64 j, .int .i64 b] 112)).drew).frozen? ⟨n + 3 + 2 * j, 0, none⟩ = false := by go_simp
  have H : Hid (Below w.heap.size w ((w.alloc (.cells #[.int .i64 j, .int .i64 b] 112)).drew)) := ((Below.refl _ _).alloc (Nat.le_refl _) _).drew
  have i1 : (j : Int) < 16 := by omega
  have i2 : (0 : Int) ≤ (j : Int) := by omega
  refine wp_region_still_tail 15 (by kernel_rfl) (by kernel_rfl) ?_
  simp only [List.take_succ_cons, List.take_zero, List.drop_succ_cons, List.drop_zero]
  rw [show ∀ W : World, ({ heap := W.heap, tape := W.tape, drawn := W.drawn + 1, os := W.os, output := W.output } : World) = W.drew from fun _ => rfl]
  generalize (w.alloc (.cells #[.int .i64 j, .int .i64 b] 112)).drew = W2 at f1 f2 f3 f4 f5 f6 H ⊢
  repeat still_step
  refine wpStill_nil ?_
  go_wp2_with fail
  refine (cas_miss (n + 3 + 2 * j) (s j) b _ Hne.out _ f4 f5 f6).mono ?_
  rintro e w' ⟨rfl, rfl⟩
  go_wp2_with fail
  go_ret
  exact ⟨rfl, H.out⟩

/-- What a Stop leaves that takes the timer of slot j away. -/
def StopPost (w : World) (n j : Nat) (now busy : Int) (s d : Nat → Int) (f : Nat → Value) : Ending → World → Prop := fun e w' =>
  e = .returned (.bool true) ∧ Clk w' n now busy (put s j (s j + 2)) d f ∧ Kept (Own n) w w'

set_option maxRecDepth 100000 in
set_option maxHeartbeats 800000 in
theorem stop_hit (n j : Nat) (now busy : Int) (s d : Nat → Int) (f : Nat → Value) (hj : j < 16) (hb : (s j).tmod 4 = 2) (h0 : 0 ≤ s j) (h1 : s j ≤ 4611686018427387904) (w : World) (C : Clk w n now busy s d f) :
    Calls Tryz.prog 51 #[.pointer (some ⟨n + 2, 0, none⟩), .pointer none, .agg #[.int .i64 j, .int .i64 (s j)]] w (StopPost w n j now busy s d f) := by
  have p0 := C.p0
  have lt : n + 2 < w.heap.size := by have := C.size; omega
  have ps : w.cell? ⟨n + 2, 2 + j * 3, none⟩ = some (.pointer (some ⟨n + 3 + 2 * j, 0, none⟩)) := by rw [Nat.mul_comm j 3]; exact C.ps j hj
  have st := C.st j hj
  have c0 := st.c0
  have c1 := st.c1
  have c2 := st.c2
  have fr := st.fr
  have l1 := st.lt
  have X := Lib.hid C
  have e0 : Hid (wrap64 (wrap64 (s j - 2) + 4) = s j + 2) := by
    show _ = _
    have hb' := hb
    rw [Int.tmod_eq_emod_of_nonneg h0] at hb'
    unfold wrap64; omega
  clear st C h0 h1
  have g1 : decide ((j : Int) < 0) = false := by simp
  have g2 : decide (16 ≤ (j : Int)) = false := by simp; omega
  go_enter Tryz.func51, Tryz.ntmps51
  go_wp2_with fail
  refine (cnone_made (n + 2) ⟨n, 0, none⟩ _ (by go_simp)).mono ?_
  rintro e w' ⟨rfl, rfl⟩
  go_wp2_with fail
  refine (kind_set hb _).mono ?_
  rintro e w' ⟨rfl, rfl⟩
  go_wp2_with fail
  have f1 : ((w.alloc (.cells #[.int .i64 j, .int .i64 (s j)] 112)).drew).cell? ⟨w.heap.size, 0, none⟩ = some (.int .i64 j) := by go_simp
  have f2 : ((w.alloc (.cells #[.int .i64 j, .int .i64 (s j)] 112)).drew).cell? ⟨w.heap.size, 1, none⟩ = some (.int .i64 (s j)) := by go_simp
  have f3 : ((w.alloc (.cells #[.int .i64 j, .int .i64 (s j)] 112)).drew).cell? ⟨n + 2, 2 + j * 3, none⟩ = some (.pointer (some ⟨n + 3 + 2 * j, 0, none⟩)) := by go_simp
  have f4 : ((w.alloc (.cells #[.int .i64 j, .int .i64 (s j)] 112)).drew).cell? ⟨n + 3 + 2 * j, 0, none⟩ = some (.int .i64 (s j)) := by go_simp
  have f5 : ((w.alloc (.cells #[.int .i64 j, .int .i64 (s j)] 112)).drew).cell? ⟨n + 3 + 2 * j, 1, none⟩ = some (.bool true) := by go_simp
  have f6 : ((w.alloc (.cells #[.int .i64 j, .int .i64 (s j)] 112)).drew).frozen? ⟨n + 3 + 2 * j, 0, none⟩ = false := by go_simp
  have f7 : ((w.alloc (.cells #[.int .i64 j, .int .i64 (s j)] 112)).drew).cell? ⟨n + 3 + 2 * j, 2, none⟩ = some (.int .i64 0) := by go_simp
  have H := Lib.hid (X.out.alloc (.cells #[.int .i64 j, .int .i64 (s j)] 112)).drew
  have K1 := Lib.hid ((Kept.refl (Own n) w).alloc (.cells #[.int .i64 j, .int .i64 (s j)] 112)).drew
  have i1 : (j : Int) < 16 := by omega
  have i2 : (0 : Int) ≤ (j : Int) := by omega
  refine wp_region_still_tail 15 (by kernel_rfl) (by kernel_rfl) ?_
  simp only [List.take_succ_cons, List.take_zero, List.drop_succ_cons, List.drop_zero]
  rw [show ∀ W : World, ({ heap := W.heap, tape := W.tape, drawn := W.drawn + 1, os := W.os, output := W.output } : World) = W.drew from fun _ => rfl]
  generalize (w.alloc (.cells #[.int .i64 j, .int .i64 (s j)] 112)).drew = W2 at f1 f2 f3 f4 f5 f6 f7 H K1 ⊢
  repeat still_step
  refine wpStill_nil ?_
  go_wp2_with fail
  refine (cas_hit (n + 3 + 2 * j) (s j) _ _ f4 f5 f7 f6).mono ?_
  rintro e w' ⟨rfl, rfl⟩
  go_wp2_with fail
  go_ret
  rw [e0.out]
  exact ⟨rfl, H.out.setState j hj _, own_set K1.out _ (by omega) (by omega) _ _⟩

end Go.Proofs.YtkbcpifhbpfhlaaGreatDoor
