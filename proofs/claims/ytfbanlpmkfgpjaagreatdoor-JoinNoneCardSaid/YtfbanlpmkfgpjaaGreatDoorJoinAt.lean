/-
  treadlelaw16.at.
-/
import Derived.Test.YtfbanlpmkfgpjaaGreatDoorJoin13
namespace Go.Proofs.YtfbanlpmkfgpjaaGreatDoor
open Go.RowKit

/-- What at(many, 6) is, whatever the world. -/
theorem at_what (k : Int) : ∃ m : Nat, m < 6 ∧ ∀ w : World, Calls Tryz.prog 4 #[.int .i64 k, .int .i64 6] w fun e w' => e = .returned (.int .i64 m) ∧ w = w' := by
  have l1 := Int.tmod_lt_of_pos k (show (0 : Int) < 6 by decide)
  have l2 := Int.tmod_lt_of_pos (-k) (show (0 : Int) < 6 by decide)
  rw [Int.neg_tmod] at l2
  by_cases h : k.tmod 6 < 0
  · refine ⟨(k.tmod 6 + 6).toNat, by omega, fun w => ?_⟩
    have e : Hid (k.tmod 6 + 6 = ((k.tmod 6 + 6).toNat : Int)) := Lib.hid (by omega)
    have ew : wrap64 (k.tmod 6 + 6) = k.tmod 6 + 6 := by unfold wrap64; omega
    go_enter Tryz.func4, Tryz.ntmps4
    go_wp2_with fail
    go_ret
    exact ⟨by first | exact congrArg (fun z => Ending.returned (.int .i64 z)) e.out | (simp; omega), rfl⟩
  · refine ⟨(k.tmod 6).toNat, by omega, fun w => ?_⟩
    have e : Hid (k.tmod 6 = ((k.tmod 6).toNat : Int)) := Lib.hid (by omega)
    have h0 : 0 ≤ k.tmod 6 := by omega
    go_enter Tryz.func4, Tryz.ntmps4
    go_wp2_with fail
    go_ret
    exact ⟨by first | exact congrArg (fun z => Ending.returned (.int .i64 z)) e.out | (simp; omega), rfl⟩

end Go.Proofs.YtfbanlpmkfgpjaaGreatDoor
