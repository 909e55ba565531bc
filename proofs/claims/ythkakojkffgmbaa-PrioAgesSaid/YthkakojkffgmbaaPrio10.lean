/-
  works().
-/
import Derived.Test.YthkakojkffgmbaaPrio9
namespace Go.Proofs.Ythkakojkffgmbaa
open Go.RowKit

/-- The states of works(): after one Put, after two, after a Take, after two. -/
def W1 : Nat → LS := fun n => if n = 0 then ⟨1, 0, put (fun i => i) 0 1, put (fun _ => 0) 0 1, put (fun _ => 0) 0 7⟩ else S0
def W2 : Nat → LS := fun n => if n = 0 then ⟨1, 0, put (fun i => i) 0 1, put (fun _ => 0) 0 1, put (fun _ => 0) 0 7⟩ else if n = 1 then ⟨1, 0, put (fun i => i) 0 1, put (fun _ => 0) 0 2, put (fun _ => 0) 0 8⟩ else S0
def W3 : Nat → LS := fun n => if n = 0 then ⟨1, 0, put (fun i => i) 0 1, put (fun _ => 0) 0 1, put (fun _ => 0) 0 7⟩ else if n = 1 then ⟨1, 1, put (put (fun i => i) 0 1) 0 2, put (fun _ => 0) 0 2, put (fun _ => 0) 0 8⟩ else S0
def W4 : Nat → LS := fun n => if n = 0 then ⟨1, 1, put (put (fun i => i) 0 1) 0 2, put (fun _ => 0) 0 1, put (fun _ => 0) 0 7⟩ else if n = 1 then ⟨1, 1, put (put (fun i => i) 0 1) 0 2, put (fun _ => 0) 0 2, put (fun _ => 0) 0 8⟩ else S0

theorem Prs.turn {w : World} {lo hi P bk B L R : Nat} {id : Nat → Ids} {k : Int} {S T : Nat → LS} (h : Prs w lo hi P bk B L R id k S) (e : ∀ n, n < L → S n = T n) : Prs w lo hi P bk B L R id k T :=
  ⟨h.h0, h.h1, h.ck, fun n hn => by rw [← e n hn]; exact h.lv n hn, h.dj, h.up, h.lP, h.lk, h.lB, h.kP, h.kB, h.PB⟩

theorem two {n : Nat} (h : n < 2) : n = 0 ∨ n = 1 := by omega

theorem W_b2 : ∀ n, n < 2 → (W2 n).b < 4611686018427387904 := fun n hn => by rcases two hn with rfl | rfl <;> simp [W2]
theorem W_b3 : ∀ n, n < 2 → (W3 n).b < 4611686018427387904 := fun n hn => by rcases two hn with rfl | rfl <;> simp [W3]
theorem W_b4 : ∀ n, n < 2 → (W4 n).b < 4611686018427387904 := fun n hn => by rcases two hn with rfl | rfl <;> simp [W4]
theorem W_k2 : ∀ n, n < 2 → ∀ i, 0 ≤ (W2 n).ti i ∧ (W2 n).ti i < 1000000 := fun n hn i => by rcases two hn with rfl | rfl <;> simp only [W2, put] <;> by_cases e : i = 0 <;> simp [put, e]
theorem W_k3 : ∀ n, n < 2 → ∀ i, 0 ≤ (W3 n).ti i ∧ (W3 n).ti i < 1000000 := fun n hn i => by rcases two hn with rfl | rfl <;> simp only [W3, put] <;> by_cases e : i = 0 <;> simp [put, e]
theorem W_k4 : ∀ n, n < 2 → ∀ i, 0 ≤ (W4 n).ti i ∧ (W4 n).ti i < 1000000 := fun n hn i => by rcases two hn with rfl | rfl <;> simp only [W4, put] <;> by_cases e : i = 0 <;> simp [put, e]
theorem W_m2 : Best 2 2 W2 1 := ⟨by decide, by simp [Full, W2, put], fun n hn _ => by obtain rfl : n = 0 := by omega
                                                                                      simp [wth, W2, put], fun n h1 h2 _ => by omega⟩
theorem W_m3 : Best 2 2 W3 0 := ⟨by decide, by simp [Full, W3, put], fun n hn _ => by omega, fun n h1 h2 hf => by
  obtain rfl : n = 1 := by omega
  simp [Full, W3, put] at hf⟩
theorem W_m4 : ∀ n, n < 2 → ¬ Full 2 (W4 n) := fun n hn => by rcases two hn with rfl | rfl <;> simp [Full, W4, put]

set_option maxRecDepth 100000 in
set_option maxHeartbeats 1600000 in
theorem works_yes (w : World) : Calls Try.prog 4 #[] w fun e w' => e = .returned (.bool true) ∧ Kept (fun _ => False) w w' := by
  have hR : Hid (Pw 2) := Lib.hid (.inl rfl)
  go_enter Try.func4, Try.ntmps4
  go_wp2_with fail
  refine (new_any (L := 2) (R := 2) hR.out (by decide) (by decide) w).mono ?_
  rintro e w1 ⟨hi, P, bk, B, id, rfl, P0, hh, K0⟩
  have HP := Lib.hid P0
  have HK := Lib.hid K0
  have HH := Lib.hid hh
  clear P0 K0 hh
  go_wp2_with fail
  have C1 := put_ok HP.out hR.out 0 (by decide) (by simp [S0]) (by simp [S0]) (by decide) (by decide) 7
  refine C1.mono ?_
  clear C1
  rintro e w2 ⟨rfl, P1, K1⟩
  have HP1 := Lib.hid (P1.turn (T := W1) (fun n hn => by rcases two hn with rfl | rfl <;> rfl))
  have HK1 := Lib.hid K1
  have L1 := Lib.hid (Nat.le_trans HH.out K1.size)
  clear P1 K1
  go_wp2_with fail
  have C2 := put_ok HP1.out hR.out 1 (by decide) (by simp [W1, S0]) (by simp [W1, S0]) (by decide) (by decide) 8
  refine C2.mono ?_
  clear C2
  rintro e w3 ⟨rfl, P2, K2⟩
  have HP2 := Lib.hid (P2.turn (T := W2) (fun n hn => by rcases two hn with rfl | rfl <;> rfl))
  have HK2 := Lib.hid K2
  have L2 := Lib.hid (Nat.le_trans L1.out K2.size)
  clear P2 K2
  go_wp2_with fail
  have C3 := put_arg HP2.out 2 (by decide) 8
  refine C3.mono ?_
  clear C3
  rintro e w4 ⟨rfl, rfl⟩
  go_wp2_with fail
  have C4 := take_some HP2.out hR.out (by decide) L2.out W_b2 W_k2 W_m2
  refine C4.mono ?_
  clear C4
  rintro e w5 ⟨rfl, P3, K3⟩
  have HP3 := Lib.hid (P3.turn (T := W3) (fun n hn => by rcases two hn with rfl | rfl <;> rfl))
  have HK3 := Lib.hid K3
  have L3 := Lib.hid (Nat.le_trans L2.out K3.size)
  clear P3 K3
  go_wp2_with fail
  have C5 := take_some HP3.out hR.out (by decide) L3.out W_b3 W_k3 W_m3
  refine C5.mono ?_
  clear C5
  rintro e w6 ⟨rfl, P4, K4⟩
  have HP4 := Lib.hid (P4.turn (T := W4) (fun n hn => by rcases two hn with rfl | rfl <;> rfl))
  have HK4 := Lib.hid K4
  have L4 := Lib.hid (Nat.le_trans L3.out K4.size)
  clear P4 K4
  go_wp2_with fail
  have C6 := take_none HP4.out hR.out (by decide) L4.out W_b4 W_k4 W_m4
  refine C6.mono ?_
  clear C6
  rintro e w7 ⟨rfl, K5⟩
  have HK5 := Lib.hid K5
  clear K5
  have v1 : (W2 1).sl ((W2 1).b % 2) = 8 := rfl
  have v2 : (W3 0).sl ((W3 0).b % 2) = 7 := rfl
  go_wp2_with fail
  go_ret
  have a1 := HK.out
  have far : ∀ i, Owns w.heap.size hi i → w.heap.size ≤ i := fun i h => h.1
  exact ⟨rfl, ((((HK.out.far HK1.out far).far HK2.out far).far HK3.out far).far HK4.out far).trans HK5.out⟩

end Go.Proofs.Ythkakojkffgmbaa
