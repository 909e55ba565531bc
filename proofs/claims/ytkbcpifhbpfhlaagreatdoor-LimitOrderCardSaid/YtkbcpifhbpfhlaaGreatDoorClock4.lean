/-
  Package clock, a nil thread: Now, pass, a slot's ring, the rings of an Advance, Advance.
-/
import Derived.Test.YtkbcpifhbpfhlaaGreatDoorClock3
namespace Go.Proofs.YtkbcpifhbpfhlaaGreatDoor
open Go.RowKit

theorem now_nil (w : World) : Calls Tryz.prog 48 #[.pointer none, .pointer none] w fun e w' => e = .returned (.int .i64 0) ∧ w' = w := by
  go_enter Tryz.func48, Tryz.ntmps48
  go_wp2_with (go_at_call 31; refine (cnone_nil _).mono ?_; rintro e w' ⟨rfl, rfl⟩)
  go_ret
  exact ⟨rfl, rfl⟩

theorem now_bare (b : Nat) (w : World) (h : w.cell? ⟨b, 0, none⟩ = some (.pointer none)) : Calls Tryz.prog 48 #[.pointer (some ⟨b, 0, none⟩), .pointer none] w fun e w' => e = .returned (.int .i64 0) ∧ w' = w := by
  go_enter Tryz.func48, Tryz.ntmps48
  go_wp2_with (go_at_call 31; refine (cnone_bare b _ h).mono ?_; rintro e w' ⟨rfl, rfl⟩)
  go_ret
  exact ⟨rfl, rfl⟩

theorem now_made (n : Nat) (now busy : Int) (s d : Nat → Int) (f : Nat → Value) (w : World) (C : Clk w n now busy s d f) :
    Calls Tryz.prog 48 #[.pointer (some ⟨n + 2, 0, none⟩), .pointer none] w fun e w' => e = .returned (.int .i64 now) ∧ w' = w := by
  have p0 := C.p0
  have c0 := C.now.c0
  have c1 := C.now.c1
  clear C
  go_enter Tryz.func48, Tryz.ntmps48
  go_wp2_with fail
  refine (cnone_made _ _ _ p0).mono ?_
  rintro e w' ⟨rfl, rfl⟩
  go_wp2_with fail
  refine (load_free n now _ c0 c1).mono ?_
  rintro e w' ⟨rfl, rfl⟩
  go_wp2_with fail
  go_ret
  exact ⟨rfl, rfl⟩

/-- The time that it is behind an Advance. -/
def later (now dt : Int) : Int := now + min dt (4611686018427387904 - now)

set_option maxHeartbeats 400000 in
theorem pass_made (n : Nat) (now busy dt : Int) (s d : Nat → Int) (f : Nat → Value) (h0 : 0 ≤ now) (h1 : now ≤ 4611686018427387904) (h2 : 0 ≤ dt) (w : World) (C : Clk w n now busy s d f) :
    Calls Tryz.prog 34 #[.pointer (some ⟨n + 2, 0, none⟩), .pointer none, .int .i64 dt] w fun e w' => e = .returned (.int .i64 (later now dt)) ∧ w' = w.setCell ⟨n, 0, none⟩ (.int .i64 (later now dt)) := by
  have p0 := C.p0
  have c0 := C.now.c0
  have c1 := C.now.c1
  have c2 := C.now.c2
  have fr := C.now.fr
  clear C
  have h3 : 0 ≤ 4611686018427387904 - now := by omega
  by_cases hm : dt ≤ 4611686018427387904 - now
  · have e0 : Hid (later now dt = now + dt) := by show _ = _; unfold later; rw [Int.min_eq_left hm]
    go_enter Tryz.func34, Tryz.ntmps34
    go_wp2_with fail
    refine (load_free n now _ c0 c1).mono ?_
    rintro e w' ⟨rfl, rfl⟩
    go_wp2_with fail
    refine (store_free n now (now + dt) _ c0 c1 c2 fr).mono ?_
    rintro e w' ⟨rfl, rfl⟩
    go_wp2_with fail
    go_ret
    rw [e0.out]
    exact ⟨rfl, rfl⟩
  · have e0 : Hid (later now dt = now + (4611686018427387904 - now)) := by show _ = _; unfold later; rw [Int.min_eq_right (by omega)]
    go_enter Tryz.func34, Tryz.ntmps34
    go_wp2_with fail
    refine (load_free n now _ c0 c1).mono ?_
    rintro e w' ⟨rfl, rfl⟩
    go_wp2_with fail
    refine (store_free n now (now + (4611686018427387904 - now)) _ c0 c1 c2 fr).mono ?_
    rintro e w' ⟨rfl, rfl⟩
    go_wp2_with fail
    go_ret
    rw [e0.out]
    exact ⟨rfl, rfl⟩

/-- What a slot's ring leaves, where R tells what its function left. -/
def RingPost (R : World → Prop) (n j : Nat) (x : Int) : Ending → World → Prop := fun e w' =>
  e = .returned (.bool true) ∧ ∃ w2, R w2 ∧ w' = w2.setCell ⟨n + 3 + 2 * j, 0, none⟩ (.int .i64 x)

/-- What its function has to leave. -/
def CallPost (R : World → Prop) (n j : Nat) (x : Int) : Ending → World → Prop := fun e w' =>
  e = .returned (.tuple #[]) ∧ R w' ∧ w'.cell? ⟨n + 2, 2 + 3 * j, none⟩ = some (.pointer (some ⟨n + 3 + 2 * j, 0, none⟩)) ∧ Cel w' (n + 3 + 2 * j) x

set_option maxRecDepth 100000 in
set_option maxHeartbeats 200000 in
theorem ring_hit (R : World → Prop) (K : Nat) (caps : Array Value) (n j : Nat) (now busy : Int) (s d : Nat → Int) (f : Nat → Value) (hent : ∀ args w, (callFunc K args).run Tryz.prog w = .ok (.enter K args) w) (hj : j < 16) (h0 : 0 ≤ s j) (h1 : s j ≤ 4611686018427387904) (hf : f j = .func (.func K) #[] caps) (w : World) (C : Clk w n now busy s d f)
    (hcall : ∀ w1, Clk w1 n now busy (put s j (s j + 1)) d (put f j .nilFunc) → Kept (Own n) w w1 → Calls Tryz.prog K (#[.pointer none] ++ caps) w1 (CallPost R n j (s j + 1))) :
    Calls Tryz.prog 63 #[.pointer (some ⟨n + 2, 2 + 3 * j, none⟩), .pointer none, .int .i64 (s j)] w (RingPost R n j (s j + 2)) := by
  have ps := C.ps j hj
  have pf := C.pf j hj
  rw [hf] at pf
  have ff := C.ff j hj
  have st := C.st j hj
  have c0 := st.c0
  have c1 := st.c1
  have c2 := st.c2
  have fr := st.fr
  have b1 : n + 2 ≠ n + 3 + 2 * j := by omega
  have b4 : n + 3 + 2 * j ≠ n + 2 := by omega
  have hw : Hid (Calls Tryz.prog K (#[.pointer none] ++ caps) _ (CallPost R n j (s j + 1))) :=
    hcall _ ((C.setState j hj (s j + 1)).setFunc j hj .nilFunc) (own_set (own_set (Kept.refl _ _) (n + 3 + 2 * j) (by omega) (by omega) 0 _) (n + 2) (by omega) (by omega) (2 + 3 * j + 2) _)
  have e1 : s j + 1 = s j - 2 + 3 := by omega
  have e2 : Hid (s j + 2 = s j - 2 + 4) := by show _ = _; omega
  rw [e1] at hw
  clear st C hcall hf e1
  go_enter Tryz.func63, Tryz.ntmps63
  go_wp2_with fail
  refine (cas_hit (n + 3 + 2 * j) (s j) (s j - 2 + 3) _ c0 c1 c2 fr).mono ?_
  rintro e w' ⟨rfl, rfl⟩
  go_wp2_with fail
  refine hw.out.mono ?_
  rintro e w2 ⟨rfl, hR, hp, hC⟩
  have HR : Hid (R w2) := hR
  have k0 := hC.c0
  have k1 := hC.c1
  have k2 := hC.c2
  have kr := hC.fr
  clear hR hC hw
  go_wp2_with fail
  refine (store_free (n + 3 + 2 * j) (s j - 2 + 3) (s j - 2 + 4) _ k0 k1 k2 kr).mono ?_
  rintro e w' ⟨rfl, rfl⟩
  go_wp2_with fail
  go_ret
  rw [e2.out]
  exact ⟨rfl, w2, HR.out, rfl⟩

theorem Clk.callPost {R : World → Prop} {n j : Nat} {now busy x : Int} {s d : Nat → Int} {f : Nat → Value} {w : World} (C : Clk w n now busy s d f) (hj : j < 16) (hx : s j = x) (hR : R w) : CallPost R n j x (.returned (.tuple #[])) w := by
  subst hx
  exact ⟨rfl, hR, C.ps j hj, C.st j hj⟩

theorem first_some (n j : Nat) (now busy m : Int) (s d : Nat → Int) (f : Nat → Value) (h0 : 0 ≤ m) (h1 : m ≤ 4611686018427387904) (hl : look s d m 16 = some j) (w : World) (C : Clk w n now busy s d f) :
    Calls Tryz.prog 62 #[.pointer (some ⟨n + 2, 0, none⟩), .pointer none, .int .i64 m] w fun e w' => e = .returned (.tuple #[.pointer (some ⟨n + 2, 2 + 3 * j, none⟩), .int .i64 (s j)]) ∧ w = w' := by
  have := first_look n now busy m s d f h0 h1 w C
  rw [hl] at this
  exact this.mono fun e w' h => ⟨h.1, h.2.symm⟩

theorem first_none (n : Nat) (now busy m : Int) (s d : Nat → Int) (f : Nat → Value) (h0 : 0 ≤ m) (h1 : m ≤ 4611686018427387904) (hl : look s d m 16 = none) (w : World) (C : Clk w n now busy s d f) :
    Calls Tryz.prog 62 #[.pointer (some ⟨n + 2, 0, none⟩), .pointer none, .int .i64 m] w fun e w' => e = .returned (.tuple #[.pointer none, .int .i64 0]) ∧ w = w' := by
  have := first_look n now busy m s d f h0 h1 w C
  rw [hl] at this
  exact this.mono fun e w' h => ⟨h.1, h.2.symm⟩

/-- What the rings of an Advance leave. -/
def RingsPost (I : Nat → World → Prop) (N : Nat) : Ending → World → Prop := fun e w' => e = .returned (.int .i64 N) ∧ I N w'

/-- What one of them leaves. -/
def RungOne (I : Nat → World → Prop) (r : Nat) : Ending → World → Prop := fun e w' => e = .returned (.bool true) ∧ I r w'

def RingsRel (I : Nat → World → Prop) (N : Nat) (c : Value) (w : World) : Prop := ∃ r : Nat, r ≤ N ∧ c = .int .i64 r ∧ I r w

set_option maxHeartbeats 800000 in
theorem rings (I : Nat → World → Prop) (n N : Nat) (now busy m : Int) (hm0 : 0 ≤ m) (hm : m ≤ 4611686018427387904) (hN : N ≤ 64)
    (hI : ∀ r w, r < N → I r w → ∃ s d f j, Clk w n now busy s d f ∧ j < 16 ∧ look s d m 16 = some j ∧ Calls Tryz.prog 63 #[.pointer (some ⟨n + 2, 2 + 3 * j, none⟩), .pointer none, .int .i64 (s j)] w (RungOne I (r + 1)))
    (hE : ∀ w, I N w → ∃ s d f, Clk w n now busy s d f ∧ (look s d m 16 = none ∨ N = 64)) (w : World) (h0 : I 0 w) :
    Calls Tryz.prog 33 #[.pointer (some ⟨n + 2, 0, none⟩), .pointer none, .int .i64 m] w (RingsPost I N) := by
  have HI : Hid _ := hI
  have HE : Hid _ := hE
  clear hI hE
  go_enter Tryz.func33, Tryz.ntmps33
  go_wp2
  go_loopw [7] (fun c wr => RingsRel I N c wr) (fun c _ => N - (intOf c).toNat)
  case atStart => exact ⟨0, Nat.zero_le _, rfl, h0⟩
  case round =>
    obtain ⟨r, hr, rfl, hIr⟩ := hrel
    by_cases hlt : r < N
    · obtain ⟨s, d, f, j, C, hj, hl, hring⟩ := HI.out r wr hlt hIr
      have HR := Lib.hid hring
      have HF := Lib.hid (first_some n j now busy m s d f hm0 hm hl wr C)
      clear hring hl C hIr
      have h64 : r < 64 := by omega
      go_wp2_with fail
      refine HF.out.mono ?_
      rintro e w' ⟨rfl, rfl⟩
      go_wp2_with fail
      refine HR.out.mono ?_
      rintro e w' ⟨rfl, hI2⟩
      have X : Hid _ := hI2
      clear hI2
      go_wp2_with fail
      go_roundw
      case rel => exact ⟨r + 1, by omega, by go_num, X.out⟩
      case measure => simp [intOf]; omega
    · obtain rfl : r = N := by omega
      obtain ⟨s, d, f, C, hor⟩ := HE.out wr hIr
      have X : Hid _ := hIr
      clear hIr
      by_cases hl : look s d m 16 = none
      · have HF := Lib.hid (first_none n now busy m s d f hm0 hm hl wr C)
        clear hl C hor
        go_wp2_with fail
        refine HF.out.mono ?_
        rintro e w' ⟨rfl, rfl⟩
        go_wp2_with fail
        go_ret
        exact ⟨rfl, X.out⟩
      · obtain rfl : r = 64 := by rcases hor with h | h
                                  · exact absurd h hl
                                  · exact h
        obtain ⟨j, hj⟩ := Option.ne_none_iff_exists'.mp hl
        have HF := Lib.hid (first_some n j now busy m s d f hm0 hm hj wr C)
        clear hl hj C hor
        go_wp2_with fail
        refine HF.out.mono ?_
        rintro e w' ⟨rfl, rfl⟩
        go_wp2_with fail
        go_ret
        exact ⟨rfl, X.out⟩

end Go.Proofs.YtkbcpifhbpfhlaaGreatDoor
