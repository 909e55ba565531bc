/-
  treadlelaw09.ListNone, walked.
-/
import Derived.Test.YtcklfdlkgohgiaaList5
namespace Go.Proofs.Ytcklfdlkgohgiaa
open Go.RowKit

/-- The answer is true; below the heap as it was nothing has turned. -/
def TruePost (w : World) : Ending → World → Prop := fun e w' => e = .returned (.bool true) ∧ Below w.heap.size w w'

def SomePost (w : World) : Ending → World → Prop := fun e w' => ∃ b : Nat, e = .returned (.pointer (some ⟨b, 0, none⟩)) ∧ Below w.heap.size w w'

theorem newAny (n : Int) (h0 : 0 ≤ n) (h : n ≤ 4096) (w : World) : Calls Try.prog 4 #[.int .i64 n] w (SomePost w) := by
  obtain ⟨k, rfl⟩ := Int.eq_ofNat_of_zero_le h0
  refine (lnew_made k (by omega) w).mono ?_
  rintro e w' ⟨b, l, h, p, rfl, F⟩
  exact ⟨b, rfl, F.below⟩

set_option maxRecDepth 100000 in
set_option maxHeartbeats 800000 in
theorem walk_below (n v : Int) (h : n < 0) (w : World) : Calls Try.prog 3 #[.int .i64 n, .int .i64 v] w (TruePost w) := by
  go_enter Try.func3, Try.ntmps3
  go_wp2_with fail
  refine (lnew_below _ h _).mono ?_
  rintro e W0 ⟨rfl, rfl⟩
  go_wp2_with fail
  refine (ladd_nil _ _ _).mono ?_
  rintro e W1 ⟨rfl, rfl⟩
  go_wp2_with fail
  refine (ladd_bare _ _ _ _ (by simp)).mono ?_
  rintro e W2 ⟨rfl, rfl⟩
  go_wp2_with fail
  refine (lclose_nil _ _).mono ?_
  rintro e W3 ⟨rfl, rfl⟩
  go_wp2_with fail
  refine (lclose_bare _ _ _ (by simp)).mono ?_
  rintro e W4 ⟨rfl, rfl⟩
  go_wp2_with fail
  refine (leach_nil _ _).mono ?_
  rintro e W5 ⟨rfl, rfl⟩
  go_wp2_with fail
  refine (leach_bare _ _ _ (by simp)).mono ?_
  rintro e W6 ⟨rfl, rfl⟩
  go_wp2_with fail
  refine (works_any _).mono ?_
  rintro e W7 ⟨rfl, H⟩
  have X : Hid _ := H
  clear H
  go_wp2_with fail
  go_ret
  exact ⟨rfl, ((Below.refl _ _).alloc (Nat.le_refl _) _).trans (X.out.mono (by simp))⟩

set_option maxRecDepth 100000 in
set_option maxHeartbeats 800000 in
theorem walk_above (n v : Int) (h : 4096 < n) (w : World) : Calls Try.prog 3 #[.int .i64 n, .int .i64 v] w (TruePost w) := by
  have h0 : ¬ n < 0 := by omega
  go_enter Try.func3, Try.ntmps3
  go_wp2_with fail
  refine (lnew_above _ h _).mono ?_
  rintro e W0 ⟨rfl, rfl⟩
  go_wp2_with fail
  refine (ladd_nil _ _ _).mono ?_
  rintro e W1 ⟨rfl, rfl⟩
  go_wp2_with fail
  refine (ladd_bare _ _ _ _ (by simp)).mono ?_
  rintro e W2 ⟨rfl, rfl⟩
  go_wp2_with fail
  refine (lclose_nil _ _).mono ?_
  rintro e W3 ⟨rfl, rfl⟩
  go_wp2_with fail
  refine (lclose_bare _ _ _ (by simp)).mono ?_
  rintro e W4 ⟨rfl, rfl⟩
  go_wp2_with fail
  refine (leach_nil _ _).mono ?_
  rintro e W5 ⟨rfl, rfl⟩
  go_wp2_with fail
  refine (leach_bare _ _ _ (by simp)).mono ?_
  rintro e W6 ⟨rfl, rfl⟩
  go_wp2_with fail
  refine (works_any _).mono ?_
  rintro e W7 ⟨rfl, H⟩
  have X : Hid _ := H
  clear H
  go_wp2_with fail
  go_ret
  exact ⟨rfl, ((Below.refl _ _).alloc (Nat.le_refl _) _).trans (X.out.mono (by simp))⟩

set_option maxRecDepth 100000 in
set_option maxHeartbeats 800000 in
theorem walk_within (n v : Int) (h0 : 0 ≤ n) (h : n ≤ 4096) (w : World) : Calls Try.prog 3 #[.int .i64 n, .int .i64 v] w (TruePost w) := by
  have n0 : ¬ n < 0 := by omega
  have n1 : ¬ 4096 < n := by omega
  go_enter Try.func3, Try.ntmps3
  go_wp2_with fail
  refine (newAny n h0 h _).mono ?_
  rintro e W0 ⟨b, rfl, H0⟩
  have X0 : Hid _ := H0
  clear H0
  go_wp2_with fail
  refine (ladd_nil _ _ _).mono ?_
  rintro e W1 ⟨rfl, rfl⟩
  go_wp2_with fail
  refine (ladd_bare _ _ _ _ (by simp)).mono ?_
  rintro e W2 ⟨rfl, rfl⟩
  go_wp2_with fail
  refine (lclose_nil _ _).mono ?_
  rintro e W3 ⟨rfl, rfl⟩
  go_wp2_with fail
  refine (lclose_bare _ _ _ (by simp)).mono ?_
  rintro e W4 ⟨rfl, rfl⟩
  go_wp2_with fail
  refine (leach_nil _ _).mono ?_
  rintro e W5 ⟨rfl, rfl⟩
  go_wp2_with fail
  refine (leach_bare _ _ _ (by simp)).mono ?_
  rintro e W6 ⟨rfl, rfl⟩
  go_wp2_with fail
  refine (works_any _).mono ?_
  rintro e W7 ⟨rfl, H⟩
  have X : Hid _ := H
  clear H
  go_wp2_with fail
  go_ret
  exact ⟨rfl, (X0.out.alloc X0.out.size _).trans (X.out.mono (by have := X0.out.size; simp; omega))⟩

theorem walk_listNone (n v : Int) (_ : (Lit.int .i64 n).wf = true) (_ : (Lit.int .i64 v).wf = true) (w : World) :
    Calls Try.prog 3 #[.int .i64 n, .int .i64 v] w fun e w' => e = .returned (.bool true) ∧ Below w.heap.size w w' := by
  by_cases h : n < 0
  · exact walk_below n v h w
  by_cases h' : 4096 < n
  · exact walk_above n v h' w
  · exact walk_within n v (by omega) (by omega) w

end Go.Proofs.Ytcklfdlkgohgiaa
