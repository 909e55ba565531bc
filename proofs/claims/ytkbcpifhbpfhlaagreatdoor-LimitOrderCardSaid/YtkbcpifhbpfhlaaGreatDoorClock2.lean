/-
  Package clock, a nil thread: a look.
-/
import Derived.Test.YtkbcpifhbpfhlaaGreatDoorClock1
namespace Go.Proofs.YtkbcpifhbpfhlaaGreatDoor
open Go.RowKit

/-- The due of what was found; of nothing: what is less is due. -/
def leastOf (d : Nat → Int) (m : Int) : Option Nat → Int
  | none => m + 1
  | some j => d j

def stateOf (s : Nat → Int) : Option Nat → Int
  | none => 0
  | some j => s j

def slotOf (n : Nat) : Option Nat → Value
  | none => .pointer none
  | some j => .pointer (some ⟨n + 2, 2 + 3 * j, none⟩)

/-- What a look has found behind k slots. -/
def look (s d : Nat → Int) (m : Int) : Nat → Option Nat
  | 0 => none
  | k + 1 => if (s k).tmod 4 = 2 ∧ d k < leastOf d m (look s d m k) then some k else look s d m k

theorem look_yes {s d : Nat → Int} {m : Int} {k : Nat} (h1 : (s k).tmod 4 = 2) (h2 : d k < leastOf d m (look s d m k)) : look s d m (k + 1) = some k := by
  simp [look, h1, h2]

theorem look_no1 {s d : Nat → Int} {m : Int} {k : Nat} (h1 : ¬ (s k).tmod 4 = 2) : look s d m (k + 1) = look s d m k := by
  simp [look, h1]

theorem look_no2 {s d : Nat → Int} {m : Int} {k : Nat} (h2 : ¬ d k < leastOf d m (look s d m k)) : look s d m (k + 1) = look s d m k := by
  simp [look, h2]

theorem kind_set {x : Int} (h : x.tmod 4 = 2) (w : World) : Calls Tryz.prog 77 #[.int .i64 x] w fun e w' => e = .returned (.int .i64 2) ∧ w' = w := by
  have := kind_any x w; rwa [h] at this

def FirstRel (s d : Nat → Int) (m : Int) (n : Nat) (f st l c : Value) : Prop :=
  ∃ k : Nat, k ≤ 16 ∧ c = .int .i64 k ∧ f = slotOf n (look s d m k) ∧ st = .int .i64 (stateOf s (look s d m k)) ∧ l = .int .i64 (leastOf d m (look s d m k))

set_option maxRecDepth 100000 in
set_option maxHeartbeats 800000 in
theorem first_look (n : Nat) (now busy m : Int) (s d : Nat → Int) (f : Nat → Value) (h0 : 0 ≤ m) (h1 : m ≤ 4611686018427387904) (w : World) (C : Clk w n now busy s d f) :
    Calls Tryz.prog 62 #[.pointer (some ⟨n + 2, 0, none⟩), .pointer none, .int .i64 m] w fun e w' => e = .returned (.tuple #[slotOf n (look s d m 16), .int .i64 (stateOf s (look s d m 16))]) ∧ w' = w := by
  go_enter Tryz.func62, Tryz.ntmps62
  go_wp2
  go_loop [8, 9, 10, 17] (fun f st l c => FirstRel s d m n f st l c) (fun _ _ _ c => 16 - (intOf c).toNat)
  case atStart => exact ⟨0, Nat.zero_le _, rfl, rfl, rfl, rfl⟩
  case round =>
    obtain ⟨k, hk, rfl, rfl, rfl, rfl⟩ := hrel
    by_cases hlt : k < 16
    · have ps := C.ps k hlt
      have pd := C.pd k hlt
      have st := C.st k hlt
      have du := C.du k hlt
      have z1 : 2 + k * 3 = 2 + 3 * k := by omega
      clear C
      by_cases hs : (s k).tmod 4 = 2
      · by_cases hd : d k < leastOf d m (look s d m k)
        · have e : Hid (look s d m (k + 1) = some k) := look_yes hs hd
          go_wp2_with fail
          refine (load_free _ _ _ st.c0 st.c1).mono ?_
          rintro e w' ⟨rfl, rfl⟩
          go_wp2_with fail
          refine (kind_set hs _).mono ?_
          rintro e w' ⟨rfl, rfl⟩
          go_wp2_with fail
          refine (load_free _ _ _ du.c0 du.c1).mono ?_
          rintro e w' ⟨rfl, rfl⟩
          go_wp2_with fail
          go_round
          case rel => exact ⟨k + 1, by omega, by go_num, by rw [e.out]; rfl, by rw [e.out]; rfl, by rw [e.out]; rfl⟩
          case measure => simp [intOf]; omega
        · have e : Hid (look s d m (k + 1) = look s d m k) := look_no2 hd
          go_wp2_with fail
          refine (load_free _ _ _ st.c0 st.c1).mono ?_
          rintro e w' ⟨rfl, rfl⟩
          go_wp2_with fail
          refine (kind_set hs _).mono ?_
          rintro e w' ⟨rfl, rfl⟩
          go_wp2_with fail
          refine (load_free _ _ _ du.c0 du.c1).mono ?_
          rintro e w' ⟨rfl, rfl⟩
          go_wp2_with fail
          go_round
          case rel => exact ⟨k + 1, by omega, by go_num, by rw [e.out], by rw [e.out], by rw [e.out]⟩
          case measure => simp [intOf]; omega
      · have e : Hid (look s d m (k + 1) = look s d m k) := look_no1 hs
        go_wp2_with (first
          | (go_at_call 37; refine (load_free _ _ _ st.c0 st.c1).mono ?_; rintro e w' ⟨rfl, rfl⟩)
          | (go_at_call 77; refine (kind_any _ _).mono ?_; rintro e w' ⟨rfl, rfl⟩))
        go_round
        case rel => exact ⟨k + 1, by omega, by go_num, by rw [e.out], by rw [e.out], by rw [e.out]⟩
        case measure => simp [intOf]; omega
    · obtain rfl : k = 16 := by omega
      clear C
      go_wp2
      go_ret2
      exact ⟨rfl, rfl⟩

end Go.Proofs.YtkbcpifhbpfhlaaGreatDoor
