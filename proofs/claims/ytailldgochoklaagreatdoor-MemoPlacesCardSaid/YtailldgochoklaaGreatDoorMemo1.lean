/-
  Sizes that are powers of two, and a key's place: plain numbers.
-/
import Derived.Test.YtailldgochoklaaGreatDoorKept
namespace Go.Proofs.YtailldgochoklaaGreatDoor
open Go.RowKit

/-- s is 2 to the k, and k at most 12. -/
def IsP (s : Int) (k : Nat) : Prop := k ≤ 12 ∧ s = (2 ^ k : Nat)

def powB (s : Int) : Bool := (List.range 13).any fun k => s == ((2 ^ k : Nat) : Int)

theorem powB_of {s : Int} {k : Nat} (h : IsP s k) : powB s = true := by
  unfold powB
  rw [List.any_eq_true]
  exact ⟨k, by simp; have := h.1; omega, by rw [h.2]; simp⟩

theorem powB_not {s : Int} (h : ∀ k, ¬ IsP s k) : powB s = false := by
  unfold powB
  rw [List.any_eq_false]
  intro k hk e
  have e' : s = ((2 ^ k : Nat) : Int) := by simpa using e
  exact h k ⟨by simp at hk; omega, e'⟩

theorem IsP.cases {s : Int} {k : Nat} (h : IsP s k) : (k = 0 ∧ s = 1) ∨ (k = 1 ∧ s = 2) ∨ (k = 2 ∧ s = 4) ∨ (k = 3 ∧ s = 8) ∨ (k = 4 ∧ s = 16) ∨ (k = 5 ∧ s = 32) ∨ (k = 6 ∧ s = 64) ∨ (k = 7 ∧ s = 128) ∨ (k = 8 ∧ s = 256) ∨ (k = 9 ∧ s = 512) ∨ (k = 10 ∧ s = 1024) ∨ (k = 11 ∧ s = 2048) ∨ (k = 12 ∧ s = 4096) := by
  obtain ⟨h1, h2⟩ := h
  have : k = 0 ∨ k = 1 ∨ k = 2 ∨ k = 3 ∨ k = 4 ∨ k = 5 ∨ k = 6 ∨ k = 7 ∨ k = 8 ∨ k = 9 ∨ k = 10 ∨ k = 11 ∨ k = 12 := by omega
  rcases this with rfl | rfl | rfl | rfl | rfl | rfl | rfl | rfl | rfl | rfl | rfl | rfl | rfl <;> simp at h2 <;> subst h2 <;> simp

theorem IsP.lo {s : Int} {k : Nat} (h : IsP s k) : 1 ≤ s := by rcases h.cases with h | h | h | h | h | h | h | h | h | h | h | h | h <;> omega
theorem IsP.hi {s : Int} {k : Nat} (h : IsP s k) : s ≤ 4096 := by rcases h.cases with h | h | h | h | h | h | h | h | h | h | h | h | h <;> omega

def andOk (n : Nat) : Bool := n == 0 || ((n &&& (n - 1)) == 0) == ((List.range 13).any fun k => n == 2 ^ k)
theorem and_tab0 : ((List.range 65).all fun a => (List.range 64).all fun b => andOk (64 * a + b)) = true := by decide +kernel
theorem and_tab (n : Nat) (h1 : 1 ≤ n) (h2 : n ≤ 4096) : ((n &&& (n - 1)) == 0) = ((List.range 13).any fun k => n == 2 ^ k) := by
  have h := and_tab0
  rw [List.all_eq_true] at h
  have h' := h (n / 64) (by simp; omega)
  rw [List.all_eq_true] at h'
  have h'' := h' (n % 64) (by simp; omega)
  rw [show 64 * (n / 64) + n % 64 = n by omega] at h''
  unfold andOk at h''
  simp only [Bool.or_eq_true, beq_iff_eq] at h''
  rcases h'' with h'' | h''
  · omega
  · exact h''

theorem and_is (s : Int) (h1 : 1 ≤ s) (h2 : s ≤ 4096) : (bits .and .i64 s (s - 1) == 0) = powB s := by
  obtain ⟨n, rfl⟩ := Int.eq_ofNat_of_zero_le (show 0 ≤ s by omega)
  have e : ((n : Int) - 1) = ((n - 1 : Nat) : Int) := by omega
  rw [e, (bits_nat .i64 62 (by decide) (fun m a b => by rw [IntKind.wrap_i64]; omega) n (n - 1) (by omega) (by omega)).1]
  have t := and_tab n (by omega) (by omega)
  have c1 : (((n &&& (n - 1) : Nat) : Int) == 0) = ((n &&& (n - 1)) == 0) := by
    rw [Bool.eq_iff_iff]; simp only [beq_iff_eq]; omega
  rw [c1]
  refine t.trans ?_
  unfold powB
  congr 1
  funext k
  rw [Bool.eq_iff_iff]; simp only [beq_iff_eq]; omega

/-- The key's place among 2 to the k. -/
def plc (key : Int) (k : Nat) : Int := (key * 11400714819323198485 % 18446744073709551616) / 2 ^ (64 - k)

theorem plc_lo (key : Int) (k : Nat) : 0 ≤ plc key k := by
  unfold plc
  exact Int.ediv_nonneg (by omega) (Int.pow_nonneg (by decide))

theorem plc_hi (key : Int) (k : Nat) (hk : k ≤ 12) : plc key k < 4096 := by
  unfold plc
  have h : (0 : Int) < 2 ^ (64 - k) := Int.pow_pos (by decide)
  rw [Int.ediv_lt_iff_lt_mul h]
  have h2 : (2 : Int) ^ 52 ≤ 2 ^ (64 - k) := by
    have : (2 : Nat) ^ 52 ≤ 2 ^ (64 - k) := Nat.pow_le_pow_right (by decide) (by omega)
    exact_mod_cast this
  have h3 : (2 : Int) ^ 52 = 4503599627370496 := by decide
  omega

/-- The de Bruijn look-up of a power of two. -/
def dbi (k : Nat) : Nat := 2 ^ k * 285870213051353865 % 18446744073709551616 / 288230376151711744

theorem db_key (s : Int) (k : Nat) (h : IsP s k) : IntKind.u64.wrap (bits BinOp.and IntKind.u64 s (IntKind.u64.wrap (-s)) * 285870213051353865) / 288230376151711744 = ((dbi k : Nat) : Int) := by
  rcases h.cases with h | h | h | h | h | h | h | h | h | h | h | h | h <;> obtain ⟨rfl, rfl⟩ := h <;> decide +kernel

theorem dbi_lt (k : Nat) (h : k ≤ 12) : dbi k < 64 := by
  have : k = 0 ∨ k = 1 ∨ k = 2 ∨ k = 3 ∨ k = 4 ∨ k = 5 ∨ k = 6 ∨ k = 7 ∨ k = 8 ∨ k = 9 ∨ k = 10 ∨ k = 11 ∨ k = 12 := by omega
  rcases this with rfl | rfl | rfl | rfl | rfl | rfl | rfl | rfl | rfl | rfl | rfl | rfl | rfl <;> decide +kernel

/-- What the reference's loop holds after j rounds: m is 2 to the j, p the highest j bits of z0, z the rest of it. -/
def RInv (z0 : Int) (k : Nat) (j : Nat) (m p z : Int) : Prop := j ≤ k ∧ k ≤ 12 ∧ m = (2 ^ j : Nat) ∧ p = z0 / 2 ^ (64 - j) ∧ z = z0 * 2 ^ j % 18446744073709551616

theorem RInv.start (z0 : Int) (k : Nat) (hk : k ≤ 12) (h0 : 0 ≤ z0) (h1 : z0 < 18446744073709551616) : RInv z0 k 0 1 0 z0 :=
  ⟨Nat.zero_le _, hk, rfl, by rw [show (2 : Int) ^ (64 - 0) = 18446744073709551616 by decide]; omega, by simp; omega⟩

theorem RInv.mlo {z0 : Int} {k j : Nat} {m p z : Int} (h : RInv z0 k j m p z) : 1 ≤ m ∧ m ≤ 4096 := by
  have : IsP m j := ⟨by have := h.1; have := h.2.1; omega, h.2.2.1⟩
  exact ⟨this.lo, this.hi⟩

theorem RInv.plo {z0 : Int} {k j : Nat} {m p z : Int} (h : RInv z0 k j m p z) (h0 : 0 ≤ z0) (h1 : z0 < 18446744073709551616) : 0 ≤ p ∧ p < 4096 := by
  obtain ⟨a, b, _, rfl, _⟩ := h
  refine ⟨Int.ediv_nonneg h0 (Int.pow_nonneg (by decide)), ?_⟩
  have hp : (0 : Int) < 2 ^ (64 - j) := Int.pow_pos (by decide)
  rw [Int.ediv_lt_iff_lt_mul hp]
  have h2 : (2 : Int) ^ 52 ≤ 2 ^ (64 - j) := by
    have : (2 : Nat) ^ 52 ≤ 2 ^ (64 - j) := Nat.pow_le_pow_right (by decide) (by omega)
    exact_mod_cast this
  have h3 : (2 : Int) ^ 52 = 4503599627370496 := by decide
  omega

theorem RInv.zlo {z0 : Int} {k j : Nat} {m p z : Int} (h : RInv z0 k j m p z) : 0 ≤ z ∧ z < 18446744073709551616 := by
  obtain ⟨_, _, _, _, rfl⟩ := h
  omega

theorem RInv.next {z0 : Int} {k j : Nat} {m p z : Int} (h : RInv z0 k j m p z) (hj : j < k) (h0 : 0 ≤ z0) (h1 : z0 < 18446744073709551616) :
    RInv z0 k (j + 1) (2 * m) (2 * p + z / 9223372036854775808) (z * 2 % 18446744073709551616) := by
  obtain ⟨a, b, hm, hp, hz⟩ := h
  refine ⟨hj, b, ?_, ?_, ?_⟩
  · rw [hm, Nat.pow_succ]; omega
  · have hj' : j = 0 ∨ j = 1 ∨ j = 2 ∨ j = 3 ∨ j = 4 ∨ j = 5 ∨ j = 6 ∨ j = 7 ∨ j = 8 ∨ j = 9 ∨ j = 10 ∨ j = 11 := by omega
    rw [hp, hz]
    clear hm hp hz
    rcases hj' with rfl | rfl | rfl | rfl | rfl | rfl | rfl | rfl | rfl | rfl | rfl | rfl <;> simp only [Nat.reduceSub, Nat.reduceAdd, Int.reducePow] <;> omega
  · rw [hz, show z0 * 2 ^ (j + 1) = z0 * 2 ^ j * 2 by rw [Int.pow_succ, Int.mul_assoc]]
    generalize z0 * 2 ^ j = a
    omega

end Go.Proofs.YtailldgochoklaaGreatDoor
