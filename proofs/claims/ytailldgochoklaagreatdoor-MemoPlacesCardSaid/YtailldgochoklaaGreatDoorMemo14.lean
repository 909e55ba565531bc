/-
  The walk of MemoPlaces.
-/
import Derived.Test.YtailldgochoklaaGreatDoorMemo13
namespace Go.Proofs.YtailldgochoklaaGreatDoor
open Go.RowKit

/-- What both packages' Place answer. -/
theorem places (key s : Int) (hk : key ≤ 9223372036854775807) : ∃ r : Int, (∀ w, Tab64 w → Calls Tryz.prog 4 #[.int .i64 key, .int .i64 s] w fun e w' => e = .returned (.int .i64 r) ∧ w = w') ∧ (∀ w, Calls Tryz.prog 5 #[.int .i64 key, .int .i64 s] w fun e w' => e = .returned (.int .i64 r) ∧ w = w') := by
  by_cases h0 : key < 0
  · exact ⟨-1, fun w _ => place_neg key s h0 w, fun w => ref_neg key s h0 w⟩
  · by_cases h : ∃ k, IsP s k
    · obtain ⟨k, h⟩ := h
      exact ⟨plc key k, fun w ht => place_yes key s k h (by omega) hk w ht, fun w => ref_yes key s k h (by omega) hk w⟩
    · have h' : ∀ k, ¬ IsP s k := fun k hk => h ⟨k, hk⟩
      exact ⟨-1, fun w _ => place_no key s (by omega) (powB_not h') w, fun w => ref_no key s (by omega) h' w⟩

/-- What New and Power answer. -/
theorem sizes (s : Int) : ∃ b : Bool, (∀ w, Calls Tryz.prog 7 #[.int .i64 s] w fun e w' => e = .returned (.bool b) ∧ w = w') ∧ (∀ w, Calls Tryz.prog 6 #[.int .i64 s] w fun e w' => ∃ p : Option Addr, e = .returned (.pointer p) ∧ p.isSome = b ∧ Kept (fun _ => False) w w') := by
  by_cases h : ∃ k, IsP s k
  · obtain ⟨k, h⟩ := h
    refine ⟨true, fun w => power_yes s k h w, fun w => ?_⟩
    have lo := h.lo
    have hi := h.hi
    obtain ⟨n, rfl⟩ := Int.eq_ofNat_of_zero_le (show 0 ≤ s by omega)
    refine (new_yes n (powB_of h) (by omega) (by omega) w).mono ?_
    rintro e w' ⟨rfl, H⟩
    exact ⟨_, rfl, rfl, H.kept⟩
  · have h' : ∀ k, ¬ IsP s k := fun k hk => h ⟨k, hk⟩
    refine ⟨false, fun w => power_no s h' w, fun w => ?_⟩
    refine (new_no s (powB_not h') w).mono ?_
    rintro e w' ⟨rfl, rfl⟩
    exact ⟨none, rfl, rfl, Kept.refl _ _⟩

theorem w8_is (w : World) : Calls Tryz.prog 8 (#[.pointer none] ++ #[]) w (Ans 1 .nilIface fun X => Kept (fun _ => False) w X ∧ True) := by
  have ea : (#[.pointer none] ++ #[] : Array Value) = #[.pointer none] := by simp
  rw [ea]
  go_enter Tryz.func8, Tryz.ntmps8
  go_wp2
  go_ret2
  exact ⟨rfl, Kept.refl _ w, trivial⟩

theorem plc0 (key : Int) : plc key 0 = ((0 : Nat) : Int) := by
  unfold plc
  rw [show (2 : Int) ^ (64 - 0) = 18446744073709551616 by decide]
  omega

/-- A Get of a memo of one place. -/
theorem get_one (B : Nat) (key : Int) (h0 : 0 ≤ key) (h1 : key < 9223372036854775807) (w : World) (hB : 2 < B) (ht : Tab64 w) (bx : Slot w (B + 1) 0 (.slice (some ⟨B, 0, none⟩) 1 1)) (P : Plc w B 0 0 0 0 .nilIface 0) (hz : B + 9 ≤ w.heap.size) :
    Calls Tryz.prog 9 #[.pointer (some ⟨B + 1, 0, none⟩), .pointer none, .int .i64 key, .func (.func 8) #[] #[]] w (Got B 0 key 1 2 .nilIface (fun _ => False) (fun _ => True) w) :=
  get_new B 1 0 0 8 #[] isP1 (by omega) (by omega) key 1 2 .nilIface h0 h1 (plc0 key) (fun _ => False) (fun _ => True) w (fun _ h => h.elim) (fun _ _ _ _ => trivial) (by omega) (by omega) (by omega) ht bx P
    (fun W _ => builds_ok 8 #[] (enters_of Tryz.func8 (by kernel_rfl) rfl) key 1 _ _ W (fun _ h => h.elim) (fun _ _ _ _ => trivial) fun W2 _ => w8_is W2)
    (fun l h q b W1 F1 P1 nb => ffill_ok 1 W1 F1 P1 nb)

/-- What a Get of a memo of one place comes to: whether it has built. -/
def OneGot (f : Bool) (B : Nat) (w : World) : Ending → World → Prop := fun e w' =>
  ∃ (v : Int) (x : Value), e = .returned (.tuple #[.int .i64 v, x, .bool f]) ∧ ((f = true ∧ x = .nilIface) ∨ (f = false ∧ x = .iface 35 (.int .i64 1))) ∧ Kept (fun c => B + 2 ≤ c ∧ c < B + 9) w w'

theorem one_got (key : Int) (hk : key ≤ 9223372036854775807) : ∃ f : Bool, f = (decide (0 ≤ key) && decide (key < 9223372036854775807)) ∧
    ∀ (B : Nat) (w : World), 2 < B → Tab64 w → Slot w (B + 1) 0 (.slice (some ⟨B, 0, none⟩) 1 1) → Plc w B 0 0 0 0 .nilIface 0 → B + 9 ≤ w.heap.size →
      Calls Tryz.prog 9 #[.pointer (some ⟨B + 1, 0, none⟩), .pointer none, .int .i64 key, .func (.func 8) #[] #[]] w (OneGot f B w) := by
  by_cases h0 : key < 0
  · refine ⟨false, by simp; omega, fun B w hB ht bx P hz => (get_neg B 1 key _ h0 w bx).mono ?_⟩
    rintro e w' ⟨rfl, rfl⟩
    exact ⟨0, _, rfl, .inr ⟨rfl, rfl⟩, Kept.refl _ _⟩
  · by_cases h1 : key < 9223372036854775807
    · refine ⟨true, by simp; omega, fun B w hB ht bx P hz => (get_one B key (by omega) h1 w hB ht bx P hz).mono ?_⟩
      rintro e w' ⟨rfl, _, K, _⟩
      exact ⟨1, _, rfl, .inl ⟨rfl, rfl⟩, K.mono (by rintro c _ (h | h); exact ⟨by omega, by omega⟩; exact h.elim)⟩
    · have e : key = 9223372036854775807 := by omega
      subst e
      refine ⟨false, by simp, fun B w hB ht bx P hz => (get_max B 1 _ w bx).mono ?_⟩
      rintro e w' ⟨rfl, rfl⟩
      exact ⟨0, _, rfl, .inr ⟨rfl, rfl⟩, Kept.refl _ _⟩

end Go.Proofs.YtailldgochoklaaGreatDoor
