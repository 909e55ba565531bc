/-
  Package clock, a nil thread: Advance, Stop, Set.
-/
import Derived.Test.YtkbcpifhbpfhlaaGreatDoorClock4
namespace Go.Proofs.YtkbcpifhbpfhlaaGreatDoor
open Go.RowKit

theorem adv_nil (x : Int) (w : World) : Calls Tryz.prog 11 #[.pointer none, .pointer none, .int .i64 x] w fun e w' => e = .returned (.tuple #[.int .i64 0, .int .i64 2]) ∧ w' = w := by
  go_enter Tryz.func11, Tryz.ntmps11
  go_wp2_with (go_at_call 31; refine (cnone_nil _).mono ?_; rintro e w' ⟨rfl, rfl⟩)
  go_ret2
  exact ⟨rfl, rfl⟩

theorem adv_bare (x : Int) (b : Nat) (w : World) (h : w.cell? ⟨b, 0, none⟩ = some (.pointer none)) : Calls Tryz.prog 11 #[.pointer (some ⟨b, 0, none⟩), .pointer none, .int .i64 x] w fun e w' => e = .returned (.tuple #[.int .i64 0, .int .i64 2]) ∧ w' = w := by
  go_enter Tryz.func11, Tryz.ntmps11
  go_wp2_with (go_at_call 31; refine (cnone_bare b _ h).mono ?_; rintro e w' ⟨rfl, rfl⟩)
  go_ret2
  exact ⟨rfl, rfl⟩

theorem adv_busy (n : Nat) (now dt : Int) (s d : Nat → Int) (f : Nat → Value) (h0 : 0 ≤ dt) (w : World) (C : Clk w n now 1 s d f) :
    Calls Tryz.prog 11 #[.pointer (some ⟨n + 2, 0, none⟩), .pointer none, .int .i64 dt] w fun e w' => e = .returned (.tuple #[.int .i64 0, .int .i64 14]) ∧ w = w' := by
  have p0 := C.p0
  have p1 := C.p1
  have c0 := C.busy.c0
  have c1 := C.busy.c1
  have fr := C.busy.fr
  clear C
  have h1 : ¬ dt < 0 := by omega
  go_enter Tryz.func11, Tryz.ntmps11
  go_wp2_with fail
  refine (cnone_made _ _ _ p0).mono ?_
  rintro e w' ⟨rfl, rfl⟩
  go_wp2_with fail
  refine (cas_miss (n + 1) 1 0 1 (by omega) _ c0 c1 fr).mono ?_
  rintro e w' ⟨rfl, rfl⟩
  go_wp2_with fail
  go_ret2
  exact ⟨rfl, rfl⟩

/-- What an Advance leaves behind N rings. -/
def AdvPost (I : Nat → World → Prop) (n N : Nat) : Ending → World → Prop := fun e w' =>
  e = .returned (.tuple #[.int .i64 N, .int .i64 0]) ∧ ∃ w1, I N w1 ∧ w' = w1.setCell ⟨n + 1, 0, none⟩ (.int .i64 0)

theorem later_le (now dt : Int) (h0 : 0 ≤ now) (h1 : now ≤ 4611686018427387904) (h2 : 0 ≤ dt) : 0 ≤ later now dt ∧ later now dt ≤ 4611686018427387904 := by
  unfold later; omega

set_option maxHeartbeats 800000 in
theorem adv_made (I : Nat → World → Prop) (n N : Nat) (now dt : Int) (s d : Nat → Int) (f : Nat → Value) (h0 : 0 ≤ now) (h1 : now ≤ 4611686018427387904) (h2 : 0 ≤ dt) (hN : N ≤ 64) (w : World) (C : Clk w n now 0 s d f)
    (hS : ∀ w1, Clk w1 n (later now dt) 1 s d f → Kept (Own n) w w1 → I 0 w1)
    (hI : ∀ r w, r < N → I r w → ∃ s d f j, Clk w n (later now dt) 1 s d f ∧ j < 16 ∧ look s d (later now dt) 16 = some j ∧ Calls Tryz.prog 63 #[.pointer (some ⟨n + 2, 2 + 3 * j, none⟩), .pointer none, .int .i64 (s j)] w (RungOne I (r + 1)))
    (hE : ∀ w, I N w → ∃ s d f, Clk w n (later now dt) 1 s d f ∧ (look s d (later now dt) 16 = none ∨ N = 64)) :
    Calls Tryz.prog 11 #[.pointer (some ⟨n + 2, 0, none⟩), .pointer none, .int .i64 dt] w (AdvPost I n N) := by
  have p0 := C.p0
  have p1 := C.p1
  have c0 := C.busy.c0
  have c1 := C.busy.c1
  have c2 := C.busy.c2
  have fr := C.busy.fr
  have C1 := Lib.hid (C.setBusy 1)
  have hm := later_le now dt h0 h1 h2
  have HP := Lib.hid (pass_made n now 1 dt s d f h0 h1 h2 _ C1.out)
  have HR := Lib.hid (rings I n N (later now dt) 1 (later now dt) hm.1 hm.2 hN hI hE _ (hS _ (C1.out.setNow (later now dt)) (own_set (own_set (Kept.refl _ _) _ (by omega) (by omega) _ _) _ (by omega) (by omega) _ _)))
  have HE := Lib.hid hE
  clear C hI hE hS hm
  have h3 : ¬ dt < 0 := by omega
  go_enter Tryz.func11, Tryz.ntmps11
  go_wp2_with fail
  refine (cnone_made _ _ _ p0).mono ?_
  rintro e w' ⟨rfl, rfl⟩
  go_wp2_with fail
  refine (cas_hit (n + 1) 0 1 _ c0 c1 c2 fr).mono ?_
  rintro e w2 ⟨rfl, rfl⟩
  go_wp2_with fail
  refine HP.out.mono ?_
  rintro e w2 ⟨rfl, rfl⟩
  go_wp2_with fail
  refine HR.out.mono ?_
  rintro e w2 ⟨rfl, hIN⟩
  obtain ⟨s', d', f', C', _⟩ := HE.out w2 hIN
  have X := Lib.hid hIN
  have k0 := C'.busy.c0
  have k1 := C'.busy.c1
  have k2 := C'.busy.c2
  have kr := C'.busy.fr
  have q1 := C'.p1
  clear C' hIN HR HP HE C1
  go_wp2_with fail
  refine (store_free (n + 1) 1 0 _ k0 k1 k2 kr).mono ?_
  rintro e w' ⟨rfl, rfl⟩
  go_wp2_with fail
  go_ret2
  exact ⟨rfl, w2, X.out, rfl⟩

theorem stop_nil (x : Value) (a b : Int) (hx : x = .agg #[.int .i64 a, .int .i64 b]) (w : World) : Calls Tryz.prog 51 #[.pointer none, .pointer none, x] w fun e w' => e = .returned (.bool false) ∧ Below w.heap.size w w' := by
  subst hx
  go_enter Tryz.func51, Tryz.ntmps51
  go_wp2_with (go_at_call 31; refine (cnone_nil _).mono ?_; rintro e w' ⟨rfl, rfl⟩)
  go_ret
  exact ⟨rfl, (Below.refl _ _).alloc (Nat.le_refl _) _⟩

theorem stop_bare (c : Nat) (x : Value) (a b : Int) (hx : x = .agg #[.int .i64 a, .int .i64 b]) (w : World) (h : w.cell? ⟨c, 0, none⟩ = some (.pointer none)) (hc : c < w.heap.size) : Calls Tryz.prog 51 #[.pointer (some ⟨c, 0, none⟩), .pointer none, x] w fun e w' => e = .returned (.bool false) ∧ Below w.heap.size w w' := by
  subst hx
  go_enter Tryz.func51, Tryz.ntmps51
  go_wp2_with (go_at_call 31; refine (cnone_bare c _ (by go_simp)).mono ?_; rintro e w' ⟨rfl, rfl⟩)
  go_ret
  exact ⟨rfl, (Below.refl _ _).alloc (Nat.le_refl _) _⟩

end Go.Proofs.YtkbcpifhbpfhlaaGreatDoor
