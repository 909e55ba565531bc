/-
  isSize, Power, TrailingZeros of a size; both packages' Place.
-/
import Derived.Test.YtailldgochoklaaGreatDoorMemo1
import Derived.IntWalk
namespace Go.Proofs.YtailldgochoklaaGreatDoor
open Go.RowKit

theorem isSize_any (s : Int) (w : World) : Calls Tryz.prog 13 #[.int .i64 s] w fun e w' => e = .returned (.bool (powB s)) ∧ w = w' := by
  by_cases h1 : s < 1
  · have hp : powB s = false := powB_not fun k h => by have := h.lo; omega
    have HP := Lib.hid hp
    clear hp
    have d1 : decide (s < 1) = true := by simpa using h1
    go_enter Tryz.func13, Tryz.ntmps13
    go_wp2
    go_ret
    exact ⟨by rw [HP.out]; rfl, rfl⟩
  · by_cases h2 : 4096 < s
    · have hp : powB s = false := powB_not fun k h => by have := h.hi; omega
      have HP := Lib.hid hp
      clear hp
      have d1 : decide (s < 1) = false := by simpa using h1
      have d2 : decide (s ≤ 4096) = false := by simp; omega
      go_enter Tryz.func13, Tryz.ntmps13
      go_wp2
      go_ret
      exact ⟨by rw [HP.out]; rfl, rfl⟩
    · have e := and_is s (by omega) (by omega)
      have HE := Lib.hid e
      clear e
      have b1 : 1 ≤ s := by omega
      have b2 : s ≤ 4096 := by omega
      clear h1 h2
      go_enter Tryz.func13, Tryz.ntmps13
      go_wp2
      go_ret
      exact ⟨by rw [HE.out]; rfl, rfl⟩

set_option maxHeartbeats 400000 in
theorem power_yes (s : Int) (k : Nat) (h : IsP s k) (w : World) : Calls Tryz.prog 7 #[.int .i64 s] w fun e w' => e = .returned (.bool true) ∧ w = w' := by
  have H := Lib.hid h
  clear h
  go_enter Tryz.func7, Tryz.ntmps7
  go_wp2
  go_loop [3] (fun i => ∃ (m : Int) (j : Nat), i = .int .i64 m ∧ IsP m j ∧ j ≤ k) (fun i => (8192 - intOf i).toNat)
  case atStart => exact ⟨1, 0, rfl, ⟨by omega, rfl⟩, Nat.zero_le _⟩
  case round =>
    obtain ⟨m, j, rfl, hm, hj⟩ := hrel
    have lo := hm.lo
    have hi := hm.hi
    by_cases e : j = k
    · have em : s = m := by rw [H.out.2, hm.2, e]
      subst em
      have bb : (s == s) = true := by simp
      clear hj e hm H
      go_wp2
      go_ret
      exact ⟨rfl, rfl⟩
    · have lt : j < k := by omega
      have n2 : IsP (2 * m) (j + 1) := ⟨by have := H.out.1; omega, by rw [hm.2, Nat.pow_succ]; omega⟩
      have ne : (s == m) = false := by
        have hs := H.out.2
        have hm2 := hm.2
        have : (2 ^ j : Nat) < 2 ^ k := Nat.pow_lt_pow_right (by decide) lt
        rw [beq_eq_false_iff_ne]; omega
      have HN := Lib.hid n2
      clear n2 hm e hj
      go_wp2
      go_round
      case rel => exact ⟨2 * m, j + 1, rfl, HN.out, lt⟩
      case measure => simp [intOf]; omega

set_option maxHeartbeats 400000 in
theorem power_no (s : Int) (h : ∀ k, ¬ IsP s k) (w : World) : Calls Tryz.prog 7 #[.int .i64 s] w fun e w' => e = .returned (.bool false) ∧ w = w' := by
  have H := Lib.hid h
  clear h
  go_enter Tryz.func7, Tryz.ntmps7
  go_wp2
  go_loop [3] (fun i => ∃ (m : Int) (j : Nat), i = .int .i64 m ∧ j ≤ 13 ∧ m = (2 ^ j : Nat)) (fun i => (16384 - intOf i).toNat)
  case atStart => exact ⟨1, 0, rfl, by omega, rfl⟩
  case round =>
    obtain ⟨m, j, rfl, hj, hm⟩ := hrel
    by_cases e : j = 13
    · subst e
      have em : m = 8192 := hm
      subst em
      clear hm hj
      go_wp2
      go_ret
      exact ⟨rfl, rfl⟩
    · have hp : IsP m j := ⟨by omega, hm⟩
      have lo := hp.lo
      have hi := hp.hi
      have n2 : j + 1 ≤ 13 ∧ 2 * m = (2 ^ (j + 1) : Nat) := ⟨by omega, by rw [hm, Nat.pow_succ]; omega⟩
      have ne : (s == m) = false := by
        rw [beq_eq_false_iff_ne]
        rintro rfl
        exact H.out j hp
      have HN := Lib.hid n2
      clear n2 hm e hj hp
      go_wp2
      go_round
      case rel => exact ⟨2 * m, j + 1, rfl, HN.out.1, HN.out.2⟩
      case measure => simp [intOf]; omega

end Go.Proofs.YtailldgochoklaaGreatDoor
