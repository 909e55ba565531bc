/-
  FaultTells: Same.
-/
import Derived.Test.YthkndllageopoaaDoorFt13
import Derived.Deep.QuietTactic
import Derived.BigQuiet
namespace Go.Proofs.YthkndllageopoaaDoor
open Go.RowKit Go.Shelf Go.Extern Go.Extern.Stop Go.Stop

theorem Kept.drewN {S : Nat → Prop} {a w : World} (h : Kept S a w) (n : Nat) : Kept S a (w.drewN n) := ⟨h.os, h.tape, h.output, h.size, h.block⟩

/-- Where Same's loop stands. -/
def SameAt (w wr : World) (sa sb : Value) (m g : Nat) (iv : Value) : Prop := ∃ i : Nat, i + g = m ∧ iv = .int .i64 (i : Nat) ∧ wr.cell? ⟨w.heap.size, 2, none⟩ = some sa ∧ wr.cell? ⟨w.heap.size + 1, 2, none⟩ = some sb ∧ Kept (fun _ => False) w wr

set_option maxRecDepth 100000 in
set_option maxHeartbeats 1600000 in
theorem same_yes (k x : Int) (u v : Value) (l : List Int) (hlen : l.length ≤ 5000) (w : World) (hu : Reads w u l) (hv : Reads w v l) : Calls Tryd.prog 13 #[.agg #[.int .i64 k, .int .i64 x, u], .agg #[.int .i64 k, .int .i64 x, v]] w fun e w' => e = .returned (.bool true) ∧ Kept (fun _ => False) w w' := by
  obtain ⟨ao, sa, soa, ca, rfl, _, ha⟩ := hu
  obtain ⟨bo, sb, sob, cb, rfl, _, hb⟩ := hv
  have HA := Lib.hid ha
  have HB := Lib.hid hb
  clear ha hb
  go_enter Tryd.func13, Tryd.ntmps13
  go_wp2_with fail
  go_loopg [5] l.length (fun g iv wr => SameAt w wr (.slice ao l.length ca) (.slice bo l.length cb) l.length g iv)
  case atStart => exact ⟨0, by omega, rfl, by go_simp, by go_simp, ((Kept.refl _ _).alloc _).alloc _⟩
  case round =>
    obtain ⟨i, hig, rfl, d1, d2, hK⟩ := hrel
    by_cases hi : i < l.length
    · obtain ⟨rfl, a1⟩ := HA.out i hi
      obtain ⟨rfl, b1⟩ := HB.out i hi
      have a2 := still_cell hK a1
      have b2 := still_cell hK b1
      have i0 : (i : Int) < l.length := by omega
      have i1 : (0 : Int) ≤ (i : Int) := by omega
      have HK := Lib.hid hK
      clear hK a1 b1
      obtain ⟨y, hy⟩ : ∃ y, l[i] = y := ⟨_, rfl⟩
      rw [hy] at a2 b2
      clear hy
      go_wp2_with fail
      go_quiet (fail)
      have e1 : (wr.drewN nq).cell? ⟨w.heap.size, 2, none⟩ = some (.slice (some ⟨sa, soa, none⟩) l.length ca) := d1
      have e2 : (wr.drewN nq).cell? ⟨w.heap.size + 1, 2, none⟩ = some (.slice (some ⟨sb, sob, none⟩) l.length cb) := d2
      have KQ := Lib.hid (HK.out.trans ((Kept.refl (fun _ => False) wr).drewN nq))
      generalize wr.drewN nq = W at e1 e2 KQ ⊢
      go_wp2_with fail
      go_roundg (gk - 1)
      case measure => omega
      case rel => exact ⟨i + 1, by omega, by go_num, e1, e2, KQ.out⟩
    · have i0 : decide ((i : Int) < l.length) = false := decide_eq_false (by omega)
      have HK := Lib.hid hK
      clear hK
      go_wp2_with fail
      go_ret
      exact ⟨rfl, HK.out⟩

end Go.Proofs.YthkndllageopoaaDoor
