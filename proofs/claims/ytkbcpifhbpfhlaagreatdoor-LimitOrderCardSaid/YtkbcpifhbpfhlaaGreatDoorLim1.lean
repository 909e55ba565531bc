/-
  Package limit, a nil thread: unmade, behind.
-/
import Derived.Test.YtkbcpifhbpfhlaaGreatDoorClock8
import Derived.Test.YtkbcpifhbpfhlaaGreatDoorFut4
namespace Go.Proofs.YtkbcpifhbpfhlaaGreatDoor
open Go.RowKit

theorem cset_nil (due : Int) (w : World) : Calls Tryz.prog 45 #[.pointer none, .pointer none, .int .i64 due, .nilFunc] w fun e w' => e = .returned (.tuple #[.agg #[.int .i64 0, .int .i64 0], .int .i64 2]) ∧ Kept (fun _ => False) w w' := by
  go_enter Tryz.func45, Tryz.ntmps45
  go_wp2_with (go_at_call 31; refine (cnone_nil _).mono ?_; rintro e w' ⟨rfl, rfl⟩)
  exact bodyPost_ret (v := .tuple #[.agg #[.int .i64 0, .int .i64 0], .int .i64 2]) (by simp [results, Tryz.results45, go_sem]) rfl ⟨rfl, (Kept.refl _ _).alloc _⟩

theorem cset_bare (b : Nat) (due : Int) (w : World) (h : w.cell? ⟨b, 0, none⟩ = some (.pointer none)) (hb : b < w.heap.size) :
    Calls Tryz.prog 45 #[.pointer (some ⟨b, 0, none⟩), .pointer none, .int .i64 due, .nilFunc] w fun e w' => e = .returned (.tuple #[.agg #[.int .i64 0, .int .i64 0], .int .i64 2]) ∧ Kept (fun _ => False) w w' := by
  go_enter Tryz.func45, Tryz.ntmps45
  go_wp2_with (go_at_call 31; refine (cnone_bare b _ (by go_simp)).mono ?_; rintro e w' ⟨rfl, rfl⟩)
  exact bodyPost_ret (v := .tuple #[.agg #[.int .i64 0, .int .i64 0], .int .i64 2]) (by simp [results, Tryz.results45, go_sem]) rfl ⟨rfl, (Kept.refl _ _).alloc _⟩

theorem unmade_yes (c : Value) (w : World) (hc : Calls Tryz.prog 45 #[c, .pointer none, .int .i64 0, .nilFunc] w fun e w' => e = .returned (.tuple #[.agg #[.int .i64 0, .int .i64 0], .int .i64 2]) ∧ Kept (fun _ => False) w w') :
    Calls Tryz.prog 21 #[c] w fun e w' => e = .returned (.bool true) ∧ Kept (fun _ => False) w w' := by
  have HC := Lib.hid hc
  clear hc
  go_enter Tryz.func21, Tryz.ntmps21
  go_wp2_with fail
  refine HC.out.mono ?_
  rintro e w' ⟨rfl, k⟩
  have K := Lib.hid k
  clear k
  go_wp2_with fail
  go_ret
  exact ⟨rfl, K.out.alloc _⟩

theorem unmade_no (n : Nat) (now busy : Int) (s d : Nat → Int) (f : Nat → Value) (w : World) (C : Clk w n now busy s d f) :
    Calls Tryz.prog 21 #[.pointer (some ⟨n + 2, 0, none⟩)] w fun e w' => e = .returned (.bool false) ∧ Kept (fun _ => False) w w' := by
  have HC := Lib.hid (set_none n 0 now busy s d f (by omega) (by omega) w C)
  clear C
  go_enter Tryz.func21, Tryz.ntmps21
  go_wp2_with fail
  refine HC.out.mono ?_
  rintro e w' ⟨rfl, k⟩
  have K := Lib.hid (Kept.ofBelow k (Nat.le_refl _) (fun _ => False))
  clear k
  go_wp2_with fail
  go_ret
  exact ⟨rfl, K.out.alloc _⟩

theorem unmade_nil (w : World) : Calls Tryz.prog 21 #[.pointer none] w fun e w' => e = .returned (.bool true) ∧ Kept (fun _ => False) w w' :=
  unmade_yes _ w (cset_nil 0 w)

theorem unmade_bare (b : Nat) (w : World) (h : w.cell? ⟨b, 0, none⟩ = some (.pointer none)) (hb : b < w.heap.size) : Calls Tryz.prog 21 #[.pointer (some ⟨b, 0, none⟩)] w fun e w' => e = .returned (.bool true) ∧ Kept (fun _ => False) w w' :=
  unmade_yes _ w (cset_bare b 0 w h hb)

theorem behind_any (now dt : Int) (h0 : 0 ≤ now) (h1 : now ≤ 4611686018427387904) (h2 : 0 ≤ dt) (w : World) : Calls Tryz.prog 47 #[.int .i64 now, .int .i64 dt] w fun e w' => e = .returned (.int .i64 (later now dt)) ∧ w = w' := by
  have h3 : 0 ≤ 4611686018427387904 - now := by omega
  by_cases hm : dt ≤ 4611686018427387904 - now
  · have e0 : Hid (later now dt = now + dt) := by show _ = _; unfold later; rw [Int.min_eq_left hm]
    go_enter Tryz.func47, Tryz.ntmps47
    go_wp2_with fail
    go_ret
    rw [e0.out]
    exact ⟨rfl, rfl⟩
  · have e0 : Hid (later now dt = now + (4611686018427387904 - now)) := by show _ = _; unfold later; rw [Int.min_eq_right (by omega)]
    go_enter Tryz.func47, Tryz.ntmps47
    go_wp2_with fail
    go_ret
    rw [e0.out]
    exact ⟨rfl, rfl⟩

end Go.Proofs.YtkbcpifhbpfhlaaGreatDoor
