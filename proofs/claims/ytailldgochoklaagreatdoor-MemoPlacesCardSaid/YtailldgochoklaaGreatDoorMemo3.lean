/-
  TrailingZeros of a size; both packages' Place.
-/
import Derived.Test.YtailldgochoklaaGreatDoorMemo2
namespace Go.Proofs.YtailldgochoklaaGreatDoor
open Go.RowKit

/-- The de Bruijn table's numbers for powers of two. -/
def Tab64 (w : World) : Prop := ∀ k, k ≤ 12 → w.cell? ⟨1, dbi k, none⟩ = some (.int .u8 k)

theorem tz64 (s : Int) (k i : Nat) (w : World) (hx0 : (s == 0) = false) (hc : w.cell? ⟨1, i, none⟩ = some (.int .u8 k)) (hi : i < 64) (hk : k < 64)
    (key : IntKind.u64.wrap (bits BinOp.and IntKind.u64 s (IntKind.u64.wrap (-s)) * 285870213051353865) / 288230376151711744 = (i : Int)) : Calls Tryz.prog 28 #[.int .u64 s] w fun e w' => e = .returned (.int .i64 k) ∧ w = w' := by
  go_enter Tryz.func28, Tryz.ntmps28
  go_wp2_with (simp only [key])
  go_ret
  exact ⟨by simp, rfl⟩

theorem tz_any (s : Int) (k : Nat) (h : IsP s k) (w : World) (ht : Tab64 w) : Calls Tryz.prog 14 #[.int .u64 s] w fun e w' => e = .returned (.int .i64 k) ∧ w = w' := by
  have hx0 : (s == 0) = false := by have := h.lo; rw [beq_eq_false_iff_ne]; omega
  have H := Lib.hid (tz64 s k (dbi k) w hx0 (ht k h.1) (dbi_lt k h.1) (by have := h.1; omega) (db_key s k h))
  clear h ht hx0
  go_enter Tryz.func14, Tryz.ntmps14
  go_wp2_with fail
  refine H.out.mono ?_
  rintro e w' ⟨rfl, rfl⟩
  go_wp2_with fail
  go_ret
  exact ⟨rfl, rfl⟩

theorem place_val (key : Int) (k : Nat) (hk : k ≤ 12) : wrap64 (IntKind.u64.wrap (key * 11400714819323198485) / 2 ^ (64 - k)) = plc key k := by
  have e : IntKind.u64.wrap (key * 11400714819323198485) / 2 ^ (64 - k) = plc key k := by unfold plc; rw [IntKind.wrap_u64]
  rw [e]
  have a := plc_lo key k
  have b := plc_hi key k hk
  unfold wrap64
  omega

theorem place_neg (key s : Int) (h : key < 0) (w : World) : Calls Tryz.prog 4 #[.int .i64 key, .int .i64 s] w fun e w' => e = .returned (.int .i64 (-1)) ∧ w = w' := by
  have d0 : decide (key < 0) = true := by simpa using h
  go_enter Tryz.func4, Tryz.ntmps4
  go_wp2
  go_ret
  exact ⟨rfl, rfl⟩

theorem place_no (key s : Int) (h0 : 0 ≤ key) (h : powB s = false) (w : World) : Calls Tryz.prog 4 #[.int .i64 key, .int .i64 s] w fun e w' => e = .returned (.int .i64 (-1)) ∧ w = w' := by
  have d0 : decide (key < 0) = false := by simpa using h0
  go_enter Tryz.func4, Tryz.ntmps4
  go_wp2_with (go_at_call 13; refine (isSize_any s _).mono ?_; rintro e w' ⟨rfl, rfl⟩)
  go_ret
  exact ⟨rfl, rfl⟩

set_option maxHeartbeats 400000 in
theorem place_yes (key s : Int) (k : Nat) (h : IsP s k) (h0 : 0 ≤ key) (h1 : key ≤ 9223372036854775807) (w : World) (ht : Tab64 w) :
    Calls Tryz.prog 4 #[.int .i64 key, .int .i64 s] w fun e w' => e = .returned (.int .i64 (plc key k)) ∧ w = w' := by
  have hp := powB_of h
  have H := Lib.hid h
  have HT := Lib.hid ht
  have lo := h.lo
  have hi := h.hi
  have hk := h.1
  have d0 : decide (key < 0) = false := by simpa using h0
  clear h ht
  go_enter Tryz.func4, Tryz.ntmps4
  go_wp2_with (first
    | (go_at_call 13; refine (isSize_any s _).mono ?_; rintro e w' ⟨rfl, rfl⟩)
    | (go_at_call 14; refine (tz_any s k H.out _ HT.out).mono ?_; rintro e w' ⟨rfl, rfl⟩))
  go_ret
  exact ⟨by simp only [← place_val key k hk]; simp, rfl⟩

theorem ref_neg (key s : Int) (h : key < 0) (w : World) : Calls Tryz.prog 5 #[.int .i64 key, .int .i64 s] w fun e w' => e = .returned (.int .i64 (-1)) ∧ w = w' := by
  have d0 : decide (key < 0) = true := by simpa using h
  go_enter Tryz.func5, Tryz.ntmps5
  go_wp2
  go_ret
  exact ⟨rfl, rfl⟩

theorem ref_no (key s : Int) (h0 : 0 ≤ key) (h : ∀ k, ¬ IsP s k) (w : World) : Calls Tryz.prog 5 #[.int .i64 key, .int .i64 s] w fun e w' => e = .returned (.int .i64 (-1)) ∧ w = w' := by
  have d0 : decide (key < 0) = false := by simpa using h0
  have H := Lib.hid h
  clear h
  go_enter Tryz.func5, Tryz.ntmps5
  go_wp2_with (go_at_call 7; refine (power_no s H.out _).mono ?_; rintro e w' ⟨rfl, rfl⟩)
  go_ret
  exact ⟨rfl, rfl⟩

set_option maxHeartbeats 400000 in
theorem ref_yes (key s : Int) (k : Nat) (h : IsP s k) (h0 : 0 ≤ key) (h1 : key ≤ 9223372036854775807) (w : World) :
    Calls Tryz.prog 5 #[.int .i64 key, .int .i64 s] w fun e w' => e = .returned (.int .i64 (plc key k)) ∧ w = w' := by
  have H := Lib.hid h
  have lo := h.lo
  have hi := h.hi
  have d0 : decide (key < 0) = false := by simpa using h0
  have hz : ∃ z0, z0 = IntKind.u64.wrap (key * 11400714819323198485) ∧ 0 ≤ z0 ∧ z0 < 18446744073709551616 := ⟨_, rfl, by rw [IntKind.wrap_u64]; omega, by rw [IntKind.wrap_u64]; omega⟩
  obtain ⟨z0, ez, z1, z2⟩ := hz
  have EZ := Lib.hid ez
  clear h ez
  go_enter Tryz.func5, Tryz.ntmps5
  go_wp2_with (go_at_call 7; refine (power_yes s k H.out _).mono ?_; rintro e w' ⟨rfl, rfl⟩)
  go_loop [5, 6, 7] (fun z p n => ∃ (j : Nat) (m p' z' : Int), z = .int .u64 z' ∧ p = .int .i64 p' ∧ n = .int .i64 m ∧ RInv z0 k j m p' z') (fun _ _ n => (8192 - intOf n).toNat)
  case atStart => exact ⟨0, 1, 0, _, rfl, rfl, rfl, EZ.out ▸ RInv.start z0 k H.out.1 z1 z2⟩
  case round =>
    obtain ⟨j, m, p, z, rfl, rfl, rfl, hr⟩ := hrel
    have ml := hr.mlo.1
    have mh := hr.mlo.2
    have pl := (hr.plo z1 z2).1
    have ph := (hr.plo z1 z2).2
    have zl := hr.zlo.1
    have zh := hr.zlo.2
    by_cases e : j = k
    · have em : s = m := by rw [H.out.2, hr.2.2.1, e]
      have ep : plc key k = p := by rw [hr.2.2.2.1, e, EZ.out, IntKind.wrap_u64]; rfl
      have EP := Lib.hid ep
      have dd : decide (m < s) = false := by simp; omega
      clear hr e em ep
      go_wp2
      go_ret
      exact ⟨by rw [EP.out]; simp, rfl⟩
    · have lt : j < k := by have := hr.1; omega
      have n2 := hr.next lt z1 z2
      have dd : m < s := by
        have hs := H.out.2
        have hm2 := hr.2.2.1
        have : (2 ^ j : Nat) < 2 ^ k := Nat.pow_lt_pow_right (by decide) lt
        omega
      have HN := Lib.hid n2
      clear n2 hr e lt
      go_wp2
      go_round
      case rel => exact ⟨j + 1, 2 * m, _, _, rfl, rfl, rfl, HN.out⟩
      case measure => simp [intOf]; omega

end Go.Proofs.YtailldgochoklaaGreatDoor
