/-
  Package join, a nil thread: the small calls.
-/
import Derived.Test.YtfbanlpmkfgpjaaGreatDoorFuf4
import Derived.Test.YtfbanlpmkfgpjaaGreatDoorFlt6
namespace Go.Proofs.YtfbanlpmkfgpjaaGreatDoor
open Go.RowKit

theorem jnone_nil (w : World) : Calls Tryz.prog 27 #[.pointer none] w fun e w' => e = .returned (.bool true) ∧ w = w' := by
  go_enter Tryz.func27, Tryz.ntmps27
  go_wp2
  go_ret
  exact ⟨rfl, rfl⟩

theorem jnone_bare (x : Nat) (w : World) (h : w.cell? ⟨x, 0, none⟩ = some (.pointer none)) : Calls Tryz.prog 27 #[.pointer (some ⟨x, 0, none⟩)] w fun e w' => e = .returned (.bool true) ∧ w = w' := by
  go_enter Tryz.func27, Tryz.ntmps27
  go_wp2
  go_ret
  exact ⟨rfl, rfl⟩

theorem jnone_is (x : Nat) (a : Addr) (w : World) (h : w.cell? ⟨x, 0, none⟩ = some (.pointer (some a))) : Calls Tryz.prog 27 #[.pointer (some ⟨x, 0, none⟩)] w fun e w' => e = .returned (.bool false) ∧ w = w' := by
  go_enter Tryz.func27, Tryz.ntmps27
  go_wp2
  go_ret
  exact ⟨rfl, rfl⟩

theorem jfuture_nil (w : World) : Calls Tryz.prog 10 #[.pointer none] w fun e w' => e = .returned (.pointer none) ∧ w = w' := by
  go_enter Tryz.func10, Tryz.ntmps10
  go_wp2_with (first | (go_at_call 27; refine (jnone_nil _).mono ?_; rintro e w' ⟨rfl, rfl⟩))
  go_ret
  exact ⟨rfl, rfl⟩

theorem jfuture_bare (x : Nat) (w : World) (h : w.cell? ⟨x, 0, none⟩ = some (.pointer none)) : Calls Tryz.prog 10 #[.pointer (some ⟨x, 0, none⟩)] w fun e w' => e = .returned (.pointer none) ∧ w = w' := by
  go_enter Tryz.func10, Tryz.ntmps10
  go_wp2_with (first | (go_at_call 27; refine (jnone_bare x _ h).mono ?_; rintro e w' ⟨rfl, rfl⟩))
  go_ret
  exact ⟨rfl, rfl⟩

theorem jfuture_is (x : Nat) (a : Addr) (w : World) (h : w.cell? ⟨x, 0, none⟩ = some (.pointer (some a))) : Calls Tryz.prog 10 #[.pointer (some ⟨x, 0, none⟩)] w fun e w' => e = .returned (.pointer (some a)) ∧ w = w' := by
  go_enter Tryz.func10, Tryz.ntmps10
  go_wp2_with (first | (go_at_call 27; refine (jnone_is x a _ h).mono ?_; rintro e w' ⟨rfl, rfl⟩))
  go_ret
  exact ⟨rfl, rfl⟩

theorem values_nil (w : World) : Calls Tryz.prog 9 #[.pointer none, .pointer none] w fun e w' => e = .returned (.tuple #[.slice none 0 0, .iface 33 (.int .i64 2)]) ∧ w = w' := by
  go_enter Tryz.func9, Tryz.ntmps9
  go_wp2_with (first | (go_at_call 27; refine (jnone_nil _).mono ?_; rintro e w' ⟨rfl, rfl⟩))
  go_ret2
  exact ⟨rfl, rfl⟩

theorem values_bare (x : Nat) (w : World) (h : w.cell? ⟨x, 0, none⟩ = some (.pointer none)) : Calls Tryz.prog 9 #[.pointer (some ⟨x, 0, none⟩), .pointer none] w fun e w' => e = .returned (.tuple #[.slice none 0 0, .iface 33 (.int .i64 2)]) ∧ w = w' := by
  go_enter Tryz.func9, Tryz.ntmps9
  go_wp2_with (first | (go_at_call 27; refine (jnone_bare x _ h).mono ?_; rintro e w' ⟨rfl, rfl⟩))
  go_ret2
  exact ⟨rfl, rfl⟩

theorem unless_ok (g : Value) (w : World) : Calls Tryz.prog 25 #[.int .i64 0, g] w fun e w' => e = .returned (.tuple #[g, .int .i64 0]) ∧ w = w' := by
  go_enter Tryz.func25, Tryz.ntmps25
  go_wp2
  go_ret2
  exact ⟨rfl, rfl⟩

theorem wrap_nil (k : Int) (w : World) : Calls Tryz.prog 22 #[.int .i64 k, .nilIface] w fun e w' => e = .returned .nilIface ∧ w = w' := by
  go_enter Tryz.func22, Tryz.ntmps22
  go_wp2
  go_ret
  exact ⟨rfl, rfl⟩

theorem first_none (E : Nat) (w : World) (h0 : w.cell? ⟨E, 0, none⟩ = some .nilIface) (h1 : w.cell? ⟨E, 1, none⟩ = some .nilIface) : Calls Tryz.prog 23 #[.slice (some ⟨E, 0, none⟩) 2 2] w fun e w' => e = .returned (.tuple #[.int .i64 (-1), .nilIface]) ∧ w = w' := by
  go_enter Tryz.func23, Tryz.ntmps23
  go_wp2_with fail
  refine wp_loop_rounds 3 ?_
  rw [rounds_succ]
  go_wp2_with fail
  rw [rounds_succ]
  go_wp2_with fail
  rw [rounds_succ]
  go_wp2_with fail
  go_ret2
  exact ⟨rfl, rfl⟩

theorem at_six (k : Int) (w : World) : Calls Tryz.prog 4 #[.int .i64 k, .int .i64 6] w fun e w' => (∃ m : Nat, m < 6 ∧ e = .returned (.int .i64 m)) ∧ w = w' := by
  have l1 := Int.tmod_lt_of_pos k (show (0 : Int) < 6 by decide)
  have l2 := Int.tmod_lt_of_pos (-k) (show (0 : Int) < 6 by decide)
  rw [Int.neg_tmod] at l2
  go_enter Tryz.func4, Tryz.ntmps4
  go_wp2_with fail
  · go_ret
    have e : k.tmod 6 + 6 = ((k.tmod 6 + 6).toNat : Int) := by omega
    exact ⟨⟨(k.tmod 6 + 6).toNat, by omega, congrArg (fun z => Ending.returned (.int .i64 z)) e⟩, rfl⟩
  · go_ret
    have e : k.tmod 6 = ((k.tmod 6).toNat : Int) := by omega
    exact ⟨⟨(k.tmod 6).toNat, by omega, congrArg (fun z => Ending.returned (.int .i64 z)) e⟩, rfl⟩

end Go.Proofs.YtfbanlpmkfgpjaaGreatDoor
